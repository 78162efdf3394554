/-
  No cell of these rows narrows 'for every input' (looked for: loops, veiled, ifaces, maps, wideKeys, modest, calm, conditions, laid).
  DERIVED. THE GIVEN ROWS OF THIS SEAT. 10 by the template 'for every input the law returns true; each argument reads behind the call as it read before'; 0 by the template 'total and deterministic' (their statements: YtidannjnlohihaaTotals.lean).
  GIVEN WITH THE SEED: the statements are not yours to turn. If you find one false, say at which input.
  Laid BY PROGRAM, IN A SANDBOX (cutbox-rows.mjs): the forced cells as the released guide's own fill.sh prints them over the translation 1f2104df7ee9628e… (all of the seat's roots in one cut). By AI agents, Wed Nov 11 2026. No macro, syntax, notation, axiom, sorry.
-/
import Derived.Test.YtidannjnlohihaaChecked
import GoSem.Claim
import GoSem.ClaimJoined
import GoSem.ClaimMapViews
import Derived.JoinedTies
import Derived.KernelRfl
namespace Go.Proofs.Ytidannjnlohihaa
/- THE CELL 'sum', in the pinned program and in every row, IS THE sha256 OF THE DUMP (.gsa) THAT YtidannjnlohihaaProg.lean LOADS. Nothing in Lean hashes anything: it is a label: what it is worth is what the hold of that sum in a sandbox is worth. -/
noncomputable def Try.pinned : Pinned := { name := "ytidannjnlohihaa", sum := "1f2104df7ee9628e57d53d59be7d97e78eec41b237ffd6eb04d4281f5eda35bd", checked := Try.checked }
namespace Rows
def none {H : Type} : Left H := { results := [], args := [] }

/-- 'laws.FnClosed': WHATEVER THE INPUT: true; the input reads as it did. -/
def fnClosedSpec : ChangeSpec := { name := "fnClosed", fn := fun _ => fun
  | [d1, d2] => { results := [.lit (.bool true)], args := [d1, d2] }
  | _ => none }
def fnClosedRow : OpenClaim := { program := "ytidannjnlohihaa", sum := "1f2104df7ee9628e57d53d59be7d97e78eec41b237ffd6eb04d4281f5eda35bd", func := "loop.example/g00641/laws.FnClosed", spec := "fnClosed", unfollowed := true, recurses := true, apart := false }
def FnClosedSaid : Prop := fnClosedRow.holds Try.pinned (OpenSpec.ofChange fnClosedSpec)

/-- ITS FALSE NEIGHBOUR: 'it returns false'. Refute it at one input. -/
def fnClosedWrong : ChangeSpec := { name := "fnClosed", fn := fun _ => fun
  | [d1, d2] => { results := [.lit (.bool false)], args := [d1, d2] }
  | _ => none }
def FnClosedWrongFalsely : Prop := fnClosedRow.holds Try.pinned (OpenSpec.ofChange fnClosedWrong)

/-- 'laws.FnKeys': WHATEVER THE INPUT: true; the input reads as it did. -/
def fnKeysSpec : ChangeSpec := { name := "fnKeys", fn := fun _ => fun
  | [d1, d2] => { results := [.lit (.bool true)], args := [d1, d2] }
  | _ => none }
def fnKeysRow : OpenClaim := { program := "ytidannjnlohihaa", sum := "1f2104df7ee9628e57d53d59be7d97e78eec41b237ffd6eb04d4281f5eda35bd", func := "loop.example/g00641/laws.FnKeys", spec := "fnKeys", unfollowed := true, recurses := true, apart := false }
def FnKeysSaid : Prop := fnKeysRow.holds Try.pinned (OpenSpec.ofChange fnKeysSpec)

/-- ITS FALSE NEIGHBOUR: 'it returns false'. Refute it at one input. -/
def fnKeysWrong : ChangeSpec := { name := "fnKeys", fn := fun _ => fun
  | [d1, d2] => { results := [.lit (.bool false)], args := [d1, d2] }
  | _ => none }
def FnKeysWrongFalsely : Prop := fnKeysRow.holds Try.pinned (OpenSpec.ofChange fnKeysWrong)

/-- 'laws.FnExactDistinctOf': WHATEVER THE INPUT: true; the input reads as it did. -/
def fnExactDistinctOfSpec : ChangeSpec := { name := "fnExactDistinctOf", fn := fun _ => fun
  | [d] => { results := [.lit (.bool true)], args := [d] }
  | _ => none }
def fnExactDistinctOfRow : OpenClaim := { program := "ytidannjnlohihaa", sum := "1f2104df7ee9628e57d53d59be7d97e78eec41b237ffd6eb04d4281f5eda35bd", func := "loop.example/g00641/laws.FnExactDistinctOf", spec := "fnExactDistinctOf", unfollowed := true, recurses := true, apart := false }
def FnExactDistinctOfSaid : Prop := fnExactDistinctOfRow.holds Try.pinned (OpenSpec.ofChange fnExactDistinctOfSpec)

/-- ITS FALSE NEIGHBOUR: 'it returns false'. Refute it at one input. -/
def fnExactDistinctOfWrong : ChangeSpec := { name := "fnExactDistinctOf", fn := fun _ => fun
  | [d] => { results := [.lit (.bool false)], args := [d] }
  | _ => none }
def FnExactDistinctOfWrongFalsely : Prop := fnExactDistinctOfRow.holds Try.pinned (OpenSpec.ofChange fnExactDistinctOfWrong)

/-- 'laws.FnExactGoodDeps': WHATEVER THE INPUT: true; the input reads as it did. -/
def fnExactGoodDepsSpec : ChangeSpec := { name := "fnExactGoodDeps", fn := fun _ => fun
  | [d1, d2] => { results := [.lit (.bool true)], args := [d1, d2] }
  | _ => none }
def fnExactGoodDepsRow : OpenClaim := { program := "ytidannjnlohihaa", sum := "1f2104df7ee9628e57d53d59be7d97e78eec41b237ffd6eb04d4281f5eda35bd", func := "loop.example/g00641/laws.FnExactGoodDeps", spec := "fnExactGoodDeps", unfollowed := true, recurses := true, apart := false }
def FnExactGoodDepsSaid : Prop := fnExactGoodDepsRow.holds Try.pinned (OpenSpec.ofChange fnExactGoodDepsSpec)

/-- ITS FALSE NEIGHBOUR: 'it returns false'. Refute it at one input. -/
def fnExactGoodDepsWrong : ChangeSpec := { name := "fnExactGoodDeps", fn := fun _ => fun
  | [d1, d2] => { results := [.lit (.bool false)], args := [d1, d2] }
  | _ => none }
def FnExactGoodDepsWrongFalsely : Prop := fnExactGoodDepsRow.holds Try.pinned (OpenSpec.ofChange fnExactGoodDepsWrong)

/-- 'laws.FnExactClosureOf': WHATEVER THE INPUT: true; the input reads as it did. -/
def fnExactClosureOfSpec : ChangeSpec := { name := "fnExactClosureOf", fn := fun _ => fun
  | [d1, d2, d3] => { results := [.lit (.bool true)], args := [d1, d2, d3] }
  | _ => none }
def fnExactClosureOfRow : OpenClaim := { program := "ytidannjnlohihaa", sum := "1f2104df7ee9628e57d53d59be7d97e78eec41b237ffd6eb04d4281f5eda35bd", func := "loop.example/g00641/laws.FnExactClosureOf", spec := "fnExactClosureOf", unfollowed := true, recurses := true, apart := false }
def FnExactClosureOfSaid : Prop := fnExactClosureOfRow.holds Try.pinned (OpenSpec.ofChange fnExactClosureOfSpec)

/-- ITS FALSE NEIGHBOUR: 'it returns false'. Refute it at one input. -/
def fnExactClosureOfWrong : ChangeSpec := { name := "fnExactClosureOf", fn := fun _ => fun
  | [d1, d2, d3] => { results := [.lit (.bool false)], args := [d1, d2, d3] }
  | _ => none }
def FnExactClosureOfWrongFalsely : Prop := fnExactClosureOfRow.holds Try.pinned (OpenSpec.ofChange fnExactClosureOfWrong)

/-- 'laws.FnExactImplies': WHATEVER THE INPUT: true; the input reads as it did. -/
def fnExactImpliesSpec : ChangeSpec := { name := "fnExactImplies", fn := fun _ => fun
  | [d1, d2, d3] => { results := [.lit (.bool true)], args := [d1, d2, d3] }
  | _ => none }
def fnExactImpliesRow : OpenClaim := { program := "ytidannjnlohihaa", sum := "1f2104df7ee9628e57d53d59be7d97e78eec41b237ffd6eb04d4281f5eda35bd", func := "loop.example/g00641/laws.FnExactImplies", spec := "fnExactImplies", unfollowed := true, recurses := true, apart := false }
def FnExactImpliesSaid : Prop := fnExactImpliesRow.holds Try.pinned (OpenSpec.ofChange fnExactImpliesSpec)

/-- ITS FALSE NEIGHBOUR: 'it returns false'. Refute it at one input. -/
def fnExactImpliesWrong : ChangeSpec := { name := "fnExactImplies", fn := fun _ => fun
  | [d1, d2, d3] => { results := [.lit (.bool false)], args := [d1, d2, d3] }
  | _ => none }
def FnExactImpliesWrongFalsely : Prop := fnExactImpliesRow.holds Try.pinned (OpenSpec.ofChange fnExactImpliesWrong)

/-- 'laws.FnExactKeysFor': WHATEVER THE INPUT: true; the input reads as it did. -/
def fnExactKeysForSpec : ChangeSpec := { name := "fnExactKeysFor", fn := fun _ => fun
  | [d1, d2] => { results := [.lit (.bool true)], args := [d1, d2] }
  | _ => none }
def fnExactKeysForRow : OpenClaim := { program := "ytidannjnlohihaa", sum := "1f2104df7ee9628e57d53d59be7d97e78eec41b237ffd6eb04d4281f5eda35bd", func := "loop.example/g00641/laws.FnExactKeysFor", spec := "fnExactKeysFor", unfollowed := true, recurses := true, apart := false }
def FnExactKeysForSaid : Prop := fnExactKeysForRow.holds Try.pinned (OpenSpec.ofChange fnExactKeysForSpec)

/-- ITS FALSE NEIGHBOUR: 'it returns false'. Refute it at one input. -/
def fnExactKeysForWrong : ChangeSpec := { name := "fnExactKeysFor", fn := fun _ => fun
  | [d1, d2] => { results := [.lit (.bool false)], args := [d1, d2] }
  | _ => none }
def FnExactKeysForWrongFalsely : Prop := fnExactKeysForRow.holds Try.pinned (OpenSpec.ofChange fnExactKeysForWrong)

/-- 'laws.FnExactHoldsIn': WHATEVER THE INPUT: true; the input reads as it did. -/
def fnExactHoldsInSpec : ChangeSpec := { name := "fnExactHoldsIn", fn := fun _ => fun
  | [d1, d2] => { results := [.lit (.bool true)], args := [d1, d2] }
  | _ => none }
def fnExactHoldsInRow : OpenClaim := { program := "ytidannjnlohihaa", sum := "1f2104df7ee9628e57d53d59be7d97e78eec41b237ffd6eb04d4281f5eda35bd", func := "loop.example/g00641/laws.FnExactHoldsIn", spec := "fnExactHoldsIn", unfollowed := true, recurses := true, apart := false }
def FnExactHoldsInSaid : Prop := fnExactHoldsInRow.holds Try.pinned (OpenSpec.ofChange fnExactHoldsInSpec)

/-- ITS FALSE NEIGHBOUR: 'it returns false'. Refute it at one input. -/
def fnExactHoldsInWrong : ChangeSpec := { name := "fnExactHoldsIn", fn := fun _ => fun
  | [d1, d2] => { results := [.lit (.bool false)], args := [d1, d2] }
  | _ => none }
def FnExactHoldsInWrongFalsely : Prop := fnExactHoldsInRow.holds Try.pinned (OpenSpec.ofChange fnExactHoldsInWrong)

/-- 'laws.FnExactWitnessFor': WHATEVER THE INPUT: true; the input reads as it did. -/
def fnExactWitnessForSpec : ChangeSpec := { name := "fnExactWitnessFor", fn := fun _ => fun
  | [d1, d2, d3] => { results := [.lit (.bool true)], args := [d1, d2, d3] }
  | _ => none }
def fnExactWitnessForRow : OpenClaim := { program := "ytidannjnlohihaa", sum := "1f2104df7ee9628e57d53d59be7d97e78eec41b237ffd6eb04d4281f5eda35bd", func := "loop.example/g00641/laws.FnExactWitnessFor", spec := "fnExactWitnessFor", unfollowed := true, recurses := true, apart := false }
def FnExactWitnessForSaid : Prop := fnExactWitnessForRow.holds Try.pinned (OpenSpec.ofChange fnExactWitnessForSpec)

/-- ITS FALSE NEIGHBOUR: 'it returns false'. Refute it at one input. -/
def fnExactWitnessForWrong : ChangeSpec := { name := "fnExactWitnessFor", fn := fun _ => fun
  | [d1, d2, d3] => { results := [.lit (.bool false)], args := [d1, d2, d3] }
  | _ => none }
def FnExactWitnessForWrongFalsely : Prop := fnExactWitnessForRow.holds Try.pinned (OpenSpec.ofChange fnExactWitnessForWrong)

/-- 'laws.FnExactCoverOf': WHATEVER THE INPUT: true; the input reads as it did. -/
def fnExactCoverOfSpec : ChangeSpec := { name := "fnExactCoverOf", fn := fun _ => fun
  | [d1, d2] => { results := [.lit (.bool true)], args := [d1, d2] }
  | _ => none }
def fnExactCoverOfRow : OpenClaim := { program := "ytidannjnlohihaa", sum := "1f2104df7ee9628e57d53d59be7d97e78eec41b237ffd6eb04d4281f5eda35bd", func := "loop.example/g00641/laws.FnExactCoverOf", spec := "fnExactCoverOf", unfollowed := true, recurses := true, apart := false }
def FnExactCoverOfSaid : Prop := fnExactCoverOfRow.holds Try.pinned (OpenSpec.ofChange fnExactCoverOfSpec)

/-- ITS FALSE NEIGHBOUR: 'it returns false'. Refute it at one input. -/
def fnExactCoverOfWrong : ChangeSpec := { name := "fnExactCoverOf", fn := fun _ => fun
  | [d1, d2] => { results := [.lit (.bool false)], args := [d1, d2] }
  | _ => none }
def FnExactCoverOfWrongFalsely : Prop := fnExactCoverOfRow.holds Try.pinned (OpenSpec.ofChange fnExactCoverOfWrong)

/- THE SECOND FORM. 'bulk': how many values and letters a reading holds, each counted each time it is reached (what is shared counts as often as it is met; a slice's spare places count too). A statement '..UptoSaid' is the law's where the arguments, and the package variables that the reading takes, are together of bulk at most 1048576: NARROWER than '..Said'. Prove '..Said' where nothing that the law and all that it calls make is longer than what came in: it says more and counts as full. Else prove '..UptoSaid'. A law counts once. -/
mutual
def uptoBulk {H : Type} : DataW H → Nat
  | .lit (.string bytes) => bytes.length + 1
  | .lit _ => 1
  | .nil => 1
  | .ptr d => uptoBulk d + 1
  | .slice elems spare => uptoBulkAll elems + uptoBulkAll spare + 1
  | .agg parts => uptoBulkAll parts + 1
  | .iface _ d => uptoBulk d + 1
  | .map entries => uptoBulkEntries entries + 1
  | .held _ => 1
def uptoBulkAll {H : Type} : List (DataW H) → Nat
  | [] => 0
  | d :: r => uptoBulk d + uptoBulkAll r
def uptoBulkEntries {H : Type} : List (Lit × DataW H) → Nat
  | [] => 0
  | x :: r => uptoBulkEntry x + uptoBulkEntries r
def uptoBulkEntry {H : Type} : Lit × DataW H → Nat
  | (.string bytes, d) => bytes.length + uptoBulk d + 1
  | (_, d) => uptoBulk d + 1
 end
def uptoSmall : (H : Type) → List (DataW H) → Bool := fun _ ds => decide (uptoBulkAll ds ≤ 1048576)
def OpenSpec.upto (s : _root_.Go.ChangeSpec) : _root_.Go.OpenSpec := { _root_.Go.OpenSpec.ofChange s with cond := some uptoSmall }

/-- 'laws.FnClosed', WHERE WHAT IT READS IS OF BULK AT MOST 1048576: true; the input reads as it did. -/
def fnClosedUptoRow : OpenClaim := { program := "ytidannjnlohihaa", sum := "1f2104df7ee9628e57d53d59be7d97e78eec41b237ffd6eb04d4281f5eda35bd", func := "loop.example/g00641/laws.FnClosed", spec := "fnClosed", unfollowed := true, recurses := true, apart := false, narrowed := true }
def FnClosedUptoSaid : Prop := fnClosedUptoRow.holds Try.pinned (OpenSpec.upto fnClosedSpec)

/-- 'laws.FnKeys', WHERE WHAT IT READS IS OF BULK AT MOST 1048576: true; the input reads as it did. -/
def fnKeysUptoRow : OpenClaim := { program := "ytidannjnlohihaa", sum := "1f2104df7ee9628e57d53d59be7d97e78eec41b237ffd6eb04d4281f5eda35bd", func := "loop.example/g00641/laws.FnKeys", spec := "fnKeys", unfollowed := true, recurses := true, apart := false, narrowed := true }
def FnKeysUptoSaid : Prop := fnKeysUptoRow.holds Try.pinned (OpenSpec.upto fnKeysSpec)

/-- 'laws.FnExactDistinctOf', WHERE WHAT IT READS IS OF BULK AT MOST 1048576: true; the input reads as it did. -/
def fnExactDistinctOfUptoRow : OpenClaim := { program := "ytidannjnlohihaa", sum := "1f2104df7ee9628e57d53d59be7d97e78eec41b237ffd6eb04d4281f5eda35bd", func := "loop.example/g00641/laws.FnExactDistinctOf", spec := "fnExactDistinctOf", unfollowed := true, recurses := true, apart := false, narrowed := true }
def FnExactDistinctOfUptoSaid : Prop := fnExactDistinctOfUptoRow.holds Try.pinned (OpenSpec.upto fnExactDistinctOfSpec)

/-- 'laws.FnExactGoodDeps', WHERE WHAT IT READS IS OF BULK AT MOST 1048576: true; the input reads as it did. -/
def fnExactGoodDepsUptoRow : OpenClaim := { program := "ytidannjnlohihaa", sum := "1f2104df7ee9628e57d53d59be7d97e78eec41b237ffd6eb04d4281f5eda35bd", func := "loop.example/g00641/laws.FnExactGoodDeps", spec := "fnExactGoodDeps", unfollowed := true, recurses := true, apart := false, narrowed := true }
def FnExactGoodDepsUptoSaid : Prop := fnExactGoodDepsUptoRow.holds Try.pinned (OpenSpec.upto fnExactGoodDepsSpec)

/-- 'laws.FnExactClosureOf', WHERE WHAT IT READS IS OF BULK AT MOST 1048576: true; the input reads as it did. -/
def fnExactClosureOfUptoRow : OpenClaim := { program := "ytidannjnlohihaa", sum := "1f2104df7ee9628e57d53d59be7d97e78eec41b237ffd6eb04d4281f5eda35bd", func := "loop.example/g00641/laws.FnExactClosureOf", spec := "fnExactClosureOf", unfollowed := true, recurses := true, apart := false, narrowed := true }
def FnExactClosureOfUptoSaid : Prop := fnExactClosureOfUptoRow.holds Try.pinned (OpenSpec.upto fnExactClosureOfSpec)

/-- 'laws.FnExactImplies', WHERE WHAT IT READS IS OF BULK AT MOST 1048576: true; the input reads as it did. -/
def fnExactImpliesUptoRow : OpenClaim := { program := "ytidannjnlohihaa", sum := "1f2104df7ee9628e57d53d59be7d97e78eec41b237ffd6eb04d4281f5eda35bd", func := "loop.example/g00641/laws.FnExactImplies", spec := "fnExactImplies", unfollowed := true, recurses := true, apart := false, narrowed := true }
def FnExactImpliesUptoSaid : Prop := fnExactImpliesUptoRow.holds Try.pinned (OpenSpec.upto fnExactImpliesSpec)

/-- 'laws.FnExactKeysFor', WHERE WHAT IT READS IS OF BULK AT MOST 1048576: true; the input reads as it did. -/
def fnExactKeysForUptoRow : OpenClaim := { program := "ytidannjnlohihaa", sum := "1f2104df7ee9628e57d53d59be7d97e78eec41b237ffd6eb04d4281f5eda35bd", func := "loop.example/g00641/laws.FnExactKeysFor", spec := "fnExactKeysFor", unfollowed := true, recurses := true, apart := false, narrowed := true }
def FnExactKeysForUptoSaid : Prop := fnExactKeysForUptoRow.holds Try.pinned (OpenSpec.upto fnExactKeysForSpec)

/-- 'laws.FnExactHoldsIn', WHERE WHAT IT READS IS OF BULK AT MOST 1048576: true; the input reads as it did. -/
def fnExactHoldsInUptoRow : OpenClaim := { program := "ytidannjnlohihaa", sum := "1f2104df7ee9628e57d53d59be7d97e78eec41b237ffd6eb04d4281f5eda35bd", func := "loop.example/g00641/laws.FnExactHoldsIn", spec := "fnExactHoldsIn", unfollowed := true, recurses := true, apart := false, narrowed := true }
def FnExactHoldsInUptoSaid : Prop := fnExactHoldsInUptoRow.holds Try.pinned (OpenSpec.upto fnExactHoldsInSpec)

/-- 'laws.FnExactWitnessFor', WHERE WHAT IT READS IS OF BULK AT MOST 1048576: true; the input reads as it did. -/
def fnExactWitnessForUptoRow : OpenClaim := { program := "ytidannjnlohihaa", sum := "1f2104df7ee9628e57d53d59be7d97e78eec41b237ffd6eb04d4281f5eda35bd", func := "loop.example/g00641/laws.FnExactWitnessFor", spec := "fnExactWitnessFor", unfollowed := true, recurses := true, apart := false, narrowed := true }
def FnExactWitnessForUptoSaid : Prop := fnExactWitnessForUptoRow.holds Try.pinned (OpenSpec.upto fnExactWitnessForSpec)

/-- 'laws.FnExactCoverOf', WHERE WHAT IT READS IS OF BULK AT MOST 1048576: true; the input reads as it did. -/
def fnExactCoverOfUptoRow : OpenClaim := { program := "ytidannjnlohihaa", sum := "1f2104df7ee9628e57d53d59be7d97e78eec41b237ffd6eb04d4281f5eda35bd", func := "loop.example/g00641/laws.FnExactCoverOf", spec := "fnExactCoverOf", unfollowed := true, recurses := true, apart := false, narrowed := true }
def FnExactCoverOfUptoSaid : Prop := fnExactCoverOfUptoRow.holds Try.pinned (OpenSpec.upto fnExactCoverOfSpec)

end Rows
end Go.Proofs.Ytidannjnlohihaa
