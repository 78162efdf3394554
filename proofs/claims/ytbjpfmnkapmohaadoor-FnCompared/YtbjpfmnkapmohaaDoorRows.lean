/-
  NARROWER THAN 'FOR EVERY INPUT', by the rows' own cells (each row's printed sentence says how): FnTruths: laid · FnCompared: laid.
  DERIVED. THE GIVEN ROWS OF THIS SEAT. 2 by the template 'for every input the law returns true; each argument reads behind the call as it read before'; 0 by the template 'total and deterministic' (their statements: YtbjpfmnkapmohaaDoorTotals.lean).
  GIVEN WITH THE SEED: the statements are not yours to turn. If you find one false, say at which input.
  Laid BY PROGRAM, IN A SANDBOX (cutbox-rows.mjs): the forced cells as the released guide's own fill.sh prints them over the translation 1c9a06937a2e1daa… (all of the seat's roots in one cut). By AI agents, Wed Nov 11 2026. No macro, syntax, notation, axiom, sorry.
-/
import Derived.Test.YtbjpfmnkapmohaaDoorChecked
import GoSem.Claim
import GoSem.ClaimJoined
import GoSem.ClaimMapViews
import Derived.JoinedTies
import Derived.KernelRfl
namespace Go.Proofs.YtbjpfmnkapmohaaDoor
/- THE CELL 'sum', in the pinned program and in every row, IS THE sha256 OF THE DUMP (.gsa) THAT YtbjpfmnkapmohaaDoorProg.lean LOADS. Nothing in Lean hashes anything: it is a label: what it is worth is what the hold of that sum in a sandbox is worth. -/
noncomputable def Tryd.pinned : Pinned := { name := "ytbjpfmnkapmohaadoor", sum := "1c9a06937a2e1daa687daebddb520c7e8b203394cd7bd17e25e6089464054c02", checked := Tryd.checked }
namespace Rows
def none {H : Type} : Left H := { results := [], args := [] }

/- WHAT THE LISTED PACKAGE-LEVEL VARIABLES READ AS WHEN THE CALL BEGINS. Each datum BY PROGRAM (the guide's laid-datum.mjs) off the statement by which the dump's own 'gosem.cut.vars' lays the variable. In a bare row this is a premise. The card (YtbjpfmnkapmohaaDoorCards.lean) ties it to the program's text. -/
def laid_loop_example_g00641_impl_bothTold {H : Type} : DataW H := .agg [.agg [.lit (.int .i64 0), .lit (.int .i64 0), .lit (.int .i64 0)], .agg [.lit (.int .i64 0), .lit (.int .i64 1), .lit (.int .i64 1)], .agg [.lit (.int .i64 0), .lit (.int .i64 1), .lit (.int .i64 2)]]
def laid_loop_example_g00641_impl_eitherTold {H : Type} : DataW H := .agg [.agg [.lit (.int .i64 0), .lit (.int .i64 1), .lit (.int .i64 2)], .agg [.lit (.int .i64 1), .lit (.int .i64 1), .lit (.int .i64 2)], .agg [.lit (.int .i64 2), .lit (.int .i64 2), .lit (.int .i64 2)]]
def laid_loop_example_g00641_impl_turnedAbout {H : Type} : DataW H := .agg [.lit (.int .i64 2), .lit (.int .i64 1), .lit (.int .i64 0)]
def laid_loop_example_g00641_impl_toldByKind {H : Type} : DataW H := .agg [.agg [.lit (.int .i64 0), .lit (.int .i64 2), .lit (.int .i64 0)], .agg [.lit (.int .i64 2), .lit (.int .i64 0), .lit (.int .i64 0)], .agg [.lit (.int .i64 0), .lit (.int .i64 0), .lit (.int .i64 2)]]

/-- 'laws.FnTruths': WHATEVER THE INPUT: true; the input reads as it did. -/
def fnTruthsSpec : ChangeSpec := { name := "fnTruths", vars := ["loop.example/g00641/impl.bothTold", "loop.example/g00641/impl.eitherTold", "loop.example/g00641/impl.turnedAbout"], fn := fun _ => fun
  | [d1, d2, g1, g2, g3] => { results := [.lit (.bool true)], args := [d1, d2], vars := [g1, g2, g3] }
  | _ => none }
def fnTruthsRow : OpenClaim := { program := "ytbjpfmnkapmohaadoor", sum := "1c9a06937a2e1daa687daebddb520c7e8b203394cd7bd17e25e6089464054c02", func := "loop.example/g00641/laws.FnTruths", spec := "fnTruths", named := ["loop.example/g00641/impl.bothTold", "loop.example/g00641/impl.eitherTold", "loop.example/g00641/impl.turnedAbout"], apart := false, laid := [("loop.example/g00641/impl.bothTold", laid_loop_example_g00641_impl_bothTold), ("loop.example/g00641/impl.eitherTold", laid_loop_example_g00641_impl_eitherTold), ("loop.example/g00641/impl.turnedAbout", laid_loop_example_g00641_impl_turnedAbout)] }
def FnTruthsSaid : Prop := fnTruthsRow.holds Tryd.pinned (OpenSpec.ofChange fnTruthsSpec)

/-- ITS FALSE NEIGHBOUR: 'it returns false'. Refute it at one input. -/
def fnTruthsWrong : ChangeSpec := { name := "fnTruths", vars := ["loop.example/g00641/impl.bothTold", "loop.example/g00641/impl.eitherTold", "loop.example/g00641/impl.turnedAbout"], fn := fun _ => fun
  | [d1, d2, g1, g2, g3] => { results := [.lit (.bool false)], args := [d1, d2], vars := [g1, g2, g3] }
  | _ => none }
def FnTruthsWrongFalsely : Prop := fnTruthsRow.holds Tryd.pinned (OpenSpec.ofChange fnTruthsWrong)

/-- 'laws.FnCompared': WHATEVER THE INPUT: true; the input reads as it did. -/
def fnComparedSpec : ChangeSpec := { name := "fnCompared", vars := ["loop.example/g00641/impl.toldByKind"], fn := fun _ => fun
  | [d1, d2, g1] => { results := [.lit (.bool true)], args := [d1, d2], vars := [g1] }
  | _ => none }
def fnComparedRow : OpenClaim := { program := "ytbjpfmnkapmohaadoor", sum := "1c9a06937a2e1daa687daebddb520c7e8b203394cd7bd17e25e6089464054c02", func := "loop.example/g00641/laws.FnCompared", spec := "fnCompared", named := ["loop.example/g00641/impl.toldByKind"], apart := false, laid := [("loop.example/g00641/impl.toldByKind", laid_loop_example_g00641_impl_toldByKind)] }
def FnComparedSaid : Prop := fnComparedRow.holds Tryd.pinned (OpenSpec.ofChange fnComparedSpec)

/-- ITS FALSE NEIGHBOUR: 'it returns false'. Refute it at one input. -/
def fnComparedWrong : ChangeSpec := { name := "fnCompared", vars := ["loop.example/g00641/impl.toldByKind"], fn := fun _ => fun
  | [d1, d2, g1] => { results := [.lit (.bool false)], args := [d1, d2], vars := [g1] }
  | _ => none }
def FnComparedWrongFalsely : Prop := fnComparedRow.holds Tryd.pinned (OpenSpec.ofChange fnComparedWrong)

/- THE SECOND FORM. 'bulk': how many values and letters a reading holds, each counted each time it is reached (what is shared counts as often as it is met; a slice's spare places count too). A statement '..UptoSaid' is the law's where the arguments, and the package variables that the reading takes, are together of bulk at most 1048576: NARROWER than '..Said'. Prove '..Said' where nothing that the law and all that it calls make is longer than what came in: it says more and counts as full. Else prove '..UptoSaid'. A law counts once. -/
mutual
def uptoBulk {H : Type} : DataW H → Nat
  | .lit (.string bytes) => bytes.length + 1
  | .lit _ => 1
  | .nil => 1
  | .ptr d => uptoBulk d + 1
  | .slice elems spare => uptoBulkAll elems + uptoBulkAll spare + 1
  | .agg parts => uptoBulkAll parts + 1
  | .iface _ d => uptoBulk d + 1
  | .map entries => uptoBulkEntries entries + 1
  | .held _ => 1
def uptoBulkAll {H : Type} : List (DataW H) → Nat
  | [] => 0
  | d :: r => uptoBulk d + uptoBulkAll r
def uptoBulkEntries {H : Type} : List (Lit × DataW H) → Nat
  | [] => 0
  | x :: r => uptoBulkEntry x + uptoBulkEntries r
def uptoBulkEntry {H : Type} : Lit × DataW H → Nat
  | (.string bytes, d) => bytes.length + uptoBulk d + 1
  | (_, d) => uptoBulk d + 1
 end
def uptoSmall : (H : Type) → List (DataW H) → Bool := fun _ ds => decide (uptoBulkAll ds ≤ 1048576)
def OpenSpec.upto (s : _root_.Go.ChangeSpec) : _root_.Go.OpenSpec := { _root_.Go.OpenSpec.ofChange s with cond := some uptoSmall }

/-- 'laws.FnTruths', WHERE WHAT IT READS IS OF BULK AT MOST 1048576: true; the input reads as it did. -/
def fnTruthsUptoRow : OpenClaim := { program := "ytbjpfmnkapmohaadoor", sum := "1c9a06937a2e1daa687daebddb520c7e8b203394cd7bd17e25e6089464054c02", func := "loop.example/g00641/laws.FnTruths", spec := "fnTruths", named := ["loop.example/g00641/impl.bothTold", "loop.example/g00641/impl.eitherTold", "loop.example/g00641/impl.turnedAbout"], apart := false, laid := [("loop.example/g00641/impl.bothTold", laid_loop_example_g00641_impl_bothTold), ("loop.example/g00641/impl.eitherTold", laid_loop_example_g00641_impl_eitherTold), ("loop.example/g00641/impl.turnedAbout", laid_loop_example_g00641_impl_turnedAbout)], narrowed := true }
def FnTruthsUptoSaid : Prop := fnTruthsUptoRow.holds Tryd.pinned (OpenSpec.upto fnTruthsSpec)

/-- 'laws.FnCompared', WHERE WHAT IT READS IS OF BULK AT MOST 1048576: true; the input reads as it did. -/
def fnComparedUptoRow : OpenClaim := { program := "ytbjpfmnkapmohaadoor", sum := "1c9a06937a2e1daa687daebddb520c7e8b203394cd7bd17e25e6089464054c02", func := "loop.example/g00641/laws.FnCompared", spec := "fnCompared", named := ["loop.example/g00641/impl.toldByKind"], apart := false, laid := [("loop.example/g00641/impl.toldByKind", laid_loop_example_g00641_impl_toldByKind)], narrowed := true }
def FnComparedUptoSaid : Prop := fnComparedUptoRow.holds Tryd.pinned (OpenSpec.upto fnComparedSpec)

end Rows
end Go.Proofs.YtbjpfmnkapmohaaDoor
