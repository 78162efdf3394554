/-
  NARROWER THAN 'FOR EVERY INPUT', by the rows' own cells (each row's printed sentence says how): FnExactAndOf: laid · FnExactOrOf: laid · FnExactNotOf: laid · FnExactCompare: laid.
  DERIVED. THE GIVEN ROWS OF THIS SEAT. 4 by the template 'for every input the law returns true; each argument reads behind the call as it read before'; 0 by the template 'total and deterministic' (their statements: YtbjpfmnkapmohaoDoorTotals.lean).
  GIVEN WITH THE SEED: the statements are not yours to turn. If you find one false, say at which input.
  Laid BY PROGRAM, IN A SANDBOX (cutbox-rows.mjs): the forced cells as the released guide's own fill.sh prints them over the translation ac715da3e9988c75… (all of the seat's roots in one cut). By AI agents, Wed Nov 11 2026. No macro, syntax, notation, axiom, sorry.
-/
import Derived.Test.YtbjpfmnkapmohaoDoorChecked
import GoSem.Claim
import GoSem.ClaimJoined
import GoSem.ClaimMapViews
import Derived.JoinedTies
import Derived.KernelRfl
namespace Go.Proofs.YtbjpfmnkapmohaoDoor
/- THE CELL 'sum', in the pinned program and in every row, IS THE sha256 OF THE DUMP (.gsa) THAT YtbjpfmnkapmohaoDoorProg.lean LOADS. Nothing in Lean hashes anything: it is a label: what it is worth is what the hold of that sum in a sandbox is worth. -/
noncomputable def Tryd.pinned : Pinned := { name := "ytbjpfmnkapmohaodoor", sum := "ac715da3e9988c75b9cbbaae5151cbeced1a632b1c0dfa4d7295aaf80c601f87", checked := Tryd.checked }
namespace Rows
def none {H : Type} : Left H := { results := [], args := [] }

/- WHAT THE LISTED PACKAGE-LEVEL VARIABLES READ AS WHEN THE CALL BEGINS. Each datum BY PROGRAM (the guide's laid-datum.mjs) off the statement by which the dump's own 'gosem.cut.vars' lays the variable. In a bare row this is a premise. The card (YtbjpfmnkapmohaoDoorCards.lean) ties it to the program's text. -/
def laid_loop_example_g00641_impl_bothTold {H : Type} : DataW H := .agg [.agg [.lit (.int .i64 0), .lit (.int .i64 0), .lit (.int .i64 0)], .agg [.lit (.int .i64 0), .lit (.int .i64 1), .lit (.int .i64 1)], .agg [.lit (.int .i64 0), .lit (.int .i64 1), .lit (.int .i64 2)]]
def laid_loop_example_g00641_impl_eitherTold {H : Type} : DataW H := .agg [.agg [.lit (.int .i64 0), .lit (.int .i64 1), .lit (.int .i64 2)], .agg [.lit (.int .i64 1), .lit (.int .i64 1), .lit (.int .i64 2)], .agg [.lit (.int .i64 2), .lit (.int .i64 2), .lit (.int .i64 2)]]
def laid_loop_example_g00641_impl_turnedAbout {H : Type} : DataW H := .agg [.lit (.int .i64 2), .lit (.int .i64 1), .lit (.int .i64 0)]
def laid_loop_example_g00641_impl_toldByKind {H : Type} : DataW H := .agg [.agg [.lit (.int .i64 0), .lit (.int .i64 2), .lit (.int .i64 0)], .agg [.lit (.int .i64 2), .lit (.int .i64 0), .lit (.int .i64 0)], .agg [.lit (.int .i64 0), .lit (.int .i64 0), .lit (.int .i64 2)]]

/-- 'laws.FnExactAndOf': WHATEVER THE INPUT: true; the input reads as it did. -/
def fnExactAndOfSpec : ChangeSpec := { name := "fnExactAndOf", vars := ["loop.example/g00641/impl.bothTold"], fn := fun _ => fun
  | [d1, d2, g1] => { results := [.lit (.bool true)], args := [d1, d2], vars := [g1] }
  | _ => none }
def fnExactAndOfRow : OpenClaim := { program := "ytbjpfmnkapmohaodoor", sum := "ac715da3e9988c75b9cbbaae5151cbeced1a632b1c0dfa4d7295aaf80c601f87", func := "loop.example/g00641/laws.FnExactAndOf", spec := "fnExactAndOf", named := ["loop.example/g00641/impl.bothTold"], apart := false, laid := [("loop.example/g00641/impl.bothTold", laid_loop_example_g00641_impl_bothTold)] }
def FnExactAndOfSaid : Prop := fnExactAndOfRow.holds Tryd.pinned (OpenSpec.ofChange fnExactAndOfSpec)

/-- ITS FALSE NEIGHBOUR: 'it returns false'. Refute it at one input. -/
def fnExactAndOfWrong : ChangeSpec := { name := "fnExactAndOf", vars := ["loop.example/g00641/impl.bothTold"], fn := fun _ => fun
  | [d1, d2, g1] => { results := [.lit (.bool false)], args := [d1, d2], vars := [g1] }
  | _ => none }
def FnExactAndOfWrongFalsely : Prop := fnExactAndOfRow.holds Tryd.pinned (OpenSpec.ofChange fnExactAndOfWrong)

/-- 'laws.FnExactOrOf': WHATEVER THE INPUT: true; the input reads as it did. -/
def fnExactOrOfSpec : ChangeSpec := { name := "fnExactOrOf", vars := ["loop.example/g00641/impl.eitherTold"], fn := fun _ => fun
  | [d1, d2, g1] => { results := [.lit (.bool true)], args := [d1, d2], vars := [g1] }
  | _ => none }
def fnExactOrOfRow : OpenClaim := { program := "ytbjpfmnkapmohaodoor", sum := "ac715da3e9988c75b9cbbaae5151cbeced1a632b1c0dfa4d7295aaf80c601f87", func := "loop.example/g00641/laws.FnExactOrOf", spec := "fnExactOrOf", named := ["loop.example/g00641/impl.eitherTold"], apart := false, laid := [("loop.example/g00641/impl.eitherTold", laid_loop_example_g00641_impl_eitherTold)] }
def FnExactOrOfSaid : Prop := fnExactOrOfRow.holds Tryd.pinned (OpenSpec.ofChange fnExactOrOfSpec)

/-- ITS FALSE NEIGHBOUR: 'it returns false'. Refute it at one input. -/
def fnExactOrOfWrong : ChangeSpec := { name := "fnExactOrOf", vars := ["loop.example/g00641/impl.eitherTold"], fn := fun _ => fun
  | [d1, d2, g1] => { results := [.lit (.bool false)], args := [d1, d2], vars := [g1] }
  | _ => none }
def FnExactOrOfWrongFalsely : Prop := fnExactOrOfRow.holds Tryd.pinned (OpenSpec.ofChange fnExactOrOfWrong)

/-- 'laws.FnExactNotOf': WHATEVER THE INPUT: true; the input reads as it did. -/
def fnExactNotOfSpec : ChangeSpec := { name := "fnExactNotOf", vars := ["loop.example/g00641/impl.turnedAbout"], fn := fun _ => fun
  | [d, g1] => { results := [.lit (.bool true)], args := [d], vars := [g1] }
  | _ => none }
def fnExactNotOfRow : OpenClaim := { program := "ytbjpfmnkapmohaodoor", sum := "ac715da3e9988c75b9cbbaae5151cbeced1a632b1c0dfa4d7295aaf80c601f87", func := "loop.example/g00641/laws.FnExactNotOf", spec := "fnExactNotOf", named := ["loop.example/g00641/impl.turnedAbout"], apart := false, laid := [("loop.example/g00641/impl.turnedAbout", laid_loop_example_g00641_impl_turnedAbout)] }
def FnExactNotOfSaid : Prop := fnExactNotOfRow.holds Tryd.pinned (OpenSpec.ofChange fnExactNotOfSpec)

/-- ITS FALSE NEIGHBOUR: 'it returns false'. Refute it at one input. -/
def fnExactNotOfWrong : ChangeSpec := { name := "fnExactNotOf", vars := ["loop.example/g00641/impl.turnedAbout"], fn := fun _ => fun
  | [d, g1] => { results := [.lit (.bool false)], args := [d], vars := [g1] }
  | _ => none }
def FnExactNotOfWrongFalsely : Prop := fnExactNotOfRow.holds Tryd.pinned (OpenSpec.ofChange fnExactNotOfWrong)

/-- 'laws.FnExactCompare': WHATEVER THE INPUT: true; the input reads as it did. -/
def fnExactCompareSpec : ChangeSpec := { name := "fnExactCompare", vars := ["loop.example/g00641/impl.toldByKind"], fn := fun _ => fun
  | [d1, d2, d3, g1] => { results := [.lit (.bool true)], args := [d1, d2, d3], vars := [g1] }
  | _ => none }
def fnExactCompareRow : OpenClaim := { program := "ytbjpfmnkapmohaodoor", sum := "ac715da3e9988c75b9cbbaae5151cbeced1a632b1c0dfa4d7295aaf80c601f87", func := "loop.example/g00641/laws.FnExactCompare", spec := "fnExactCompare", named := ["loop.example/g00641/impl.toldByKind"], apart := false, laid := [("loop.example/g00641/impl.toldByKind", laid_loop_example_g00641_impl_toldByKind)] }
def FnExactCompareSaid : Prop := fnExactCompareRow.holds Tryd.pinned (OpenSpec.ofChange fnExactCompareSpec)

/-- ITS FALSE NEIGHBOUR: 'it returns false'. Refute it at one input. -/
def fnExactCompareWrong : ChangeSpec := { name := "fnExactCompare", vars := ["loop.example/g00641/impl.toldByKind"], fn := fun _ => fun
  | [d1, d2, d3, g1] => { results := [.lit (.bool false)], args := [d1, d2, d3], vars := [g1] }
  | _ => none }
def FnExactCompareWrongFalsely : Prop := fnExactCompareRow.holds Tryd.pinned (OpenSpec.ofChange fnExactCompareWrong)

/- THE SECOND FORM. 'bulk': how many values and letters a reading holds, each counted each time it is reached (what is shared counts as often as it is met; a slice's spare places count too). A statement '..UptoSaid' is the law's where the arguments, and the package variables that the reading takes, are together of bulk at most 1048576: NARROWER than '..Said'. Prove '..Said' where nothing that the law and all that it calls make is longer than what came in: it says more and counts as full. Else prove '..UptoSaid'. A law counts once. -/
mutual
def uptoBulk {H : Type} : DataW H → Nat
  | .lit (.string bytes) => bytes.length + 1
  | .lit _ => 1
  | .nil => 1
  | .ptr d => uptoBulk d + 1
  | .slice elems spare => uptoBulkAll elems + uptoBulkAll spare + 1
  | .agg parts => uptoBulkAll parts + 1
  | .iface _ d => uptoBulk d + 1
  | .map entries => uptoBulkEntries entries + 1
  | .held _ => 1
def uptoBulkAll {H : Type} : List (DataW H) → Nat
  | [] => 0
  | d :: r => uptoBulk d + uptoBulkAll r
def uptoBulkEntries {H : Type} : List (Lit × DataW H) → Nat
  | [] => 0
  | x :: r => uptoBulkEntry x + uptoBulkEntries r
def uptoBulkEntry {H : Type} : Lit × DataW H → Nat
  | (.string bytes, d) => bytes.length + uptoBulk d + 1
  | (_, d) => uptoBulk d + 1
 end
def uptoSmall : (H : Type) → List (DataW H) → Bool := fun _ ds => decide (uptoBulkAll ds ≤ 1048576)
def OpenSpec.upto (s : _root_.Go.ChangeSpec) : _root_.Go.OpenSpec := { _root_.Go.OpenSpec.ofChange s with cond := some uptoSmall }

/-- 'laws.FnExactAndOf', WHERE WHAT IT READS IS OF BULK AT MOST 1048576: true; the input reads as it did. -/
def fnExactAndOfUptoRow : OpenClaim := { program := "ytbjpfmnkapmohaodoor", sum := "ac715da3e9988c75b9cbbaae5151cbeced1a632b1c0dfa4d7295aaf80c601f87", func := "loop.example/g00641/laws.FnExactAndOf", spec := "fnExactAndOf", named := ["loop.example/g00641/impl.bothTold"], apart := false, laid := [("loop.example/g00641/impl.bothTold", laid_loop_example_g00641_impl_bothTold)], narrowed := true }
def FnExactAndOfUptoSaid : Prop := fnExactAndOfUptoRow.holds Tryd.pinned (OpenSpec.upto fnExactAndOfSpec)

/-- 'laws.FnExactOrOf', WHERE WHAT IT READS IS OF BULK AT MOST 1048576: true; the input reads as it did. -/
def fnExactOrOfUptoRow : OpenClaim := { program := "ytbjpfmnkapmohaodoor", sum := "ac715da3e9988c75b9cbbaae5151cbeced1a632b1c0dfa4d7295aaf80c601f87", func := "loop.example/g00641/laws.FnExactOrOf", spec := "fnExactOrOf", named := ["loop.example/g00641/impl.eitherTold"], apart := false, laid := [("loop.example/g00641/impl.eitherTold", laid_loop_example_g00641_impl_eitherTold)], narrowed := true }
def FnExactOrOfUptoSaid : Prop := fnExactOrOfUptoRow.holds Tryd.pinned (OpenSpec.upto fnExactOrOfSpec)

/-- 'laws.FnExactNotOf', WHERE WHAT IT READS IS OF BULK AT MOST 1048576: true; the input reads as it did. -/
def fnExactNotOfUptoRow : OpenClaim := { program := "ytbjpfmnkapmohaodoor", sum := "ac715da3e9988c75b9cbbaae5151cbeced1a632b1c0dfa4d7295aaf80c601f87", func := "loop.example/g00641/laws.FnExactNotOf", spec := "fnExactNotOf", named := ["loop.example/g00641/impl.turnedAbout"], apart := false, laid := [("loop.example/g00641/impl.turnedAbout", laid_loop_example_g00641_impl_turnedAbout)], narrowed := true }
def FnExactNotOfUptoSaid : Prop := fnExactNotOfUptoRow.holds Tryd.pinned (OpenSpec.upto fnExactNotOfSpec)

/-- 'laws.FnExactCompare', WHERE WHAT IT READS IS OF BULK AT MOST 1048576: true; the input reads as it did. -/
def fnExactCompareUptoRow : OpenClaim := { program := "ytbjpfmnkapmohaodoor", sum := "ac715da3e9988c75b9cbbaae5151cbeced1a632b1c0dfa4d7295aaf80c601f87", func := "loop.example/g00641/laws.FnExactCompare", spec := "fnExactCompare", named := ["loop.example/g00641/impl.toldByKind"], apart := false, laid := [("loop.example/g00641/impl.toldByKind", laid_loop_example_g00641_impl_toldByKind)], narrowed := true }
def FnExactCompareUptoSaid : Prop := fnExactCompareUptoRow.holds Tryd.pinned (OpenSpec.upto fnExactCompareSpec)

end Rows
end Go.Proofs.YtbjpfmnkapmohaoDoor
