/-
  NARROWER THAN 'FOR EVERY INPUT', by the rows' own cells (each row's printed sentence says how): FnSums: laid · FnGrouped: laid · FnExactChoose: laid · FnExactSumOf: laid · FnExactAddSums: laid · FnExactByGroup: laid · FnExactCountWhere: laid.
  DERIVED. THE GIVEN ROWS OF THIS SEAT. 7 by the template 'for every input the law returns true; each argument reads behind the call as it read before'; 0 by the template 'total and deterministic' (their statements: YtdlcjcobfckncaaDoorTotals.lean).
  GIVEN WITH THE SEED: the statements are not yours to turn. If you find one false, say at which input.
  Laid BY PROGRAM, IN A SANDBOX (cutbox-rows.mjs): the forced cells as the released guide's own fill.sh prints them over the translation 2a8a1e501f838105… (all of the seat's roots in one cut). By AI agents, Wed Nov 11 2026. No macro, syntax, notation, axiom, sorry.
-/
import Derived.Test.YtdlcjcobfckncaaDoorChecked
import GoSem.Claim
import GoSem.ClaimJoined
import GoSem.ClaimMapViews
import Derived.JoinedTies
import Derived.KernelRfl
namespace Go.Proofs.YtdlcjcobfckncaaDoor
/- THE CELL 'sum', in the pinned program and in every row, IS THE sha256 OF THE DUMP (.gsa) THAT YtdlcjcobfckncaaDoorProg.lean LOADS. Nothing in Lean hashes anything: it is a label: what it is worth is what the hold of that sum in a sandbox is worth. -/
noncomputable def Tryd.pinned : Pinned := { name := "ytdlcjcobfckncaadoor", sum := "2a8a1e501f8381058b8d1bfdfe05b6f56f262ca715a09233ab5a7ce5f6df7014", checked := Tryd.checked }
namespace Rows
def none {H : Type} : Left H := { results := [], args := [] }

/- WHAT THE LISTED PACKAGE-LEVEL VARIABLES READ AS WHEN THE CALL BEGINS. Each datum BY PROGRAM (the guide's laid-datum.mjs) off the statement by which the dump's own 'gosem.cut.vars' lays the variable. In a bare row this is a premise. The card (YtdlcjcobfckncaaDoorCards.lean) ties it to the program's text. -/
def laid_loop_example_g00641_impl_toldByKind {H : Type} : DataW H := .agg [.agg [.lit (.int .i64 0), .lit (.int .i64 2), .lit (.int .i64 0)], .agg [.lit (.int .i64 2), .lit (.int .i64 0), .lit (.int .i64 0)], .agg [.lit (.int .i64 0), .lit (.int .i64 0), .lit (.int .i64 2)]]

/-- 'laws.FnSums': WHATEVER THE INPUT: true; the input reads as it did. -/
def fnSumsSpec : ChangeSpec := { name := "fnSums", vars := ["loop.example/g00641/impl.toldByKind"], fn := fun _ => fun
  | [d1, d2, g1] => { results := [.lit (.bool true)], args := [d1, d2], vars := [g1] }
  | _ => none }
def fnSumsRow : OpenClaim := { program := "ytdlcjcobfckncaadoor", sum := "2a8a1e501f8381058b8d1bfdfe05b6f56f262ca715a09233ab5a7ce5f6df7014", func := "loop.example/g00641/laws.FnSums", spec := "fnSums", named := ["loop.example/g00641/impl.toldByKind"], apart := false, laid := [("loop.example/g00641/impl.toldByKind", laid_loop_example_g00641_impl_toldByKind)] }
def FnSumsSaid : Prop := fnSumsRow.holds Tryd.pinned (OpenSpec.ofChange fnSumsSpec)

/-- ITS FALSE NEIGHBOUR: 'it returns false'. Refute it at one input. -/
def fnSumsWrong : ChangeSpec := { name := "fnSums", vars := ["loop.example/g00641/impl.toldByKind"], fn := fun _ => fun
  | [d1, d2, g1] => { results := [.lit (.bool false)], args := [d1, d2], vars := [g1] }
  | _ => none }
def FnSumsWrongFalsely : Prop := fnSumsRow.holds Tryd.pinned (OpenSpec.ofChange fnSumsWrong)

/-- 'laws.FnGrouped': WHATEVER THE INPUT: true; the input reads as it did. -/
def fnGroupedSpec : ChangeSpec := { name := "fnGrouped", vars := ["loop.example/g00641/impl.toldByKind"], fn := fun _ => fun
  | [d1, d2, g1] => { results := [.lit (.bool true)], args := [d1, d2], vars := [g1] }
  | _ => none }
def fnGroupedRow : OpenClaim := { program := "ytdlcjcobfckncaadoor", sum := "2a8a1e501f8381058b8d1bfdfe05b6f56f262ca715a09233ab5a7ce5f6df7014", func := "loop.example/g00641/laws.FnGrouped", spec := "fnGrouped", unfollowed := true, recurses := true, named := ["loop.example/g00641/impl.toldByKind"], apart := false, laid := [("loop.example/g00641/impl.toldByKind", laid_loop_example_g00641_impl_toldByKind)] }
def FnGroupedSaid : Prop := fnGroupedRow.holds Tryd.pinned (OpenSpec.ofChange fnGroupedSpec)

/-- ITS FALSE NEIGHBOUR: 'it returns false'. Refute it at one input. -/
def fnGroupedWrong : ChangeSpec := { name := "fnGrouped", vars := ["loop.example/g00641/impl.toldByKind"], fn := fun _ => fun
  | [d1, d2, g1] => { results := [.lit (.bool false)], args := [d1, d2], vars := [g1] }
  | _ => none }
def FnGroupedWrongFalsely : Prop := fnGroupedRow.holds Tryd.pinned (OpenSpec.ofChange fnGroupedWrong)

/-- 'laws.FnExactChoose': WHATEVER THE INPUT: true; the input reads as it did. -/
def fnExactChooseSpec : ChangeSpec := { name := "fnExactChoose", vars := ["loop.example/g00641/impl.toldByKind"], fn := fun _ => fun
  | [d1, d2, d3, d4, g1] => { results := [.lit (.bool true)], args := [d1, d2, d3, d4], vars := [g1] }
  | _ => none }
def fnExactChooseRow : OpenClaim := { program := "ytdlcjcobfckncaadoor", sum := "2a8a1e501f8381058b8d1bfdfe05b6f56f262ca715a09233ab5a7ce5f6df7014", func := "loop.example/g00641/laws.FnExactChoose", spec := "fnExactChoose", unfollowed := true, recurses := true, named := ["loop.example/g00641/impl.toldByKind"], apart := false, laid := [("loop.example/g00641/impl.toldByKind", laid_loop_example_g00641_impl_toldByKind)] }
def FnExactChooseSaid : Prop := fnExactChooseRow.holds Tryd.pinned (OpenSpec.ofChange fnExactChooseSpec)

/-- ITS FALSE NEIGHBOUR: 'it returns false'. Refute it at one input. -/
def fnExactChooseWrong : ChangeSpec := { name := "fnExactChoose", vars := ["loop.example/g00641/impl.toldByKind"], fn := fun _ => fun
  | [d1, d2, d3, d4, g1] => { results := [.lit (.bool false)], args := [d1, d2, d3, d4], vars := [g1] }
  | _ => none }
def FnExactChooseWrongFalsely : Prop := fnExactChooseRow.holds Tryd.pinned (OpenSpec.ofChange fnExactChooseWrong)

/-- 'laws.FnExactSumOf': WHATEVER THE INPUT: true; the input reads as it did. -/
def fnExactSumOfSpec : ChangeSpec := { name := "fnExactSumOf", vars := ["loop.example/g00641/impl.toldByKind"], fn := fun _ => fun
  | [d, g1] => { results := [.lit (.bool true)], args := [d], vars := [g1] }
  | _ => none }
def fnExactSumOfRow : OpenClaim := { program := "ytdlcjcobfckncaadoor", sum := "2a8a1e501f8381058b8d1bfdfe05b6f56f262ca715a09233ab5a7ce5f6df7014", func := "loop.example/g00641/laws.FnExactSumOf", spec := "fnExactSumOf", named := ["loop.example/g00641/impl.toldByKind"], apart := false, laid := [("loop.example/g00641/impl.toldByKind", laid_loop_example_g00641_impl_toldByKind)] }
def FnExactSumOfSaid : Prop := fnExactSumOfRow.holds Tryd.pinned (OpenSpec.ofChange fnExactSumOfSpec)

/-- ITS FALSE NEIGHBOUR: 'it returns false'. Refute it at one input. -/
def fnExactSumOfWrong : ChangeSpec := { name := "fnExactSumOf", vars := ["loop.example/g00641/impl.toldByKind"], fn := fun _ => fun
  | [d, g1] => { results := [.lit (.bool false)], args := [d], vars := [g1] }
  | _ => none }
def FnExactSumOfWrongFalsely : Prop := fnExactSumOfRow.holds Tryd.pinned (OpenSpec.ofChange fnExactSumOfWrong)

/-- 'laws.FnExactAddSums': WHATEVER THE INPUT: true; the input reads as it did. -/
def fnExactAddSumsSpec : ChangeSpec := { name := "fnExactAddSums", vars := ["loop.example/g00641/impl.toldByKind"], fn := fun _ => fun
  | [d1, d2, g1] => { results := [.lit (.bool true)], args := [d1, d2], vars := [g1] }
  | _ => none }
def fnExactAddSumsRow : OpenClaim := { program := "ytdlcjcobfckncaadoor", sum := "2a8a1e501f8381058b8d1bfdfe05b6f56f262ca715a09233ab5a7ce5f6df7014", func := "loop.example/g00641/laws.FnExactAddSums", spec := "fnExactAddSums", named := ["loop.example/g00641/impl.toldByKind"], apart := false, laid := [("loop.example/g00641/impl.toldByKind", laid_loop_example_g00641_impl_toldByKind)] }
def FnExactAddSumsSaid : Prop := fnExactAddSumsRow.holds Tryd.pinned (OpenSpec.ofChange fnExactAddSumsSpec)

/-- ITS FALSE NEIGHBOUR: 'it returns false'. Refute it at one input. -/
def fnExactAddSumsWrong : ChangeSpec := { name := "fnExactAddSums", vars := ["loop.example/g00641/impl.toldByKind"], fn := fun _ => fun
  | [d1, d2, g1] => { results := [.lit (.bool false)], args := [d1, d2], vars := [g1] }
  | _ => none }
def FnExactAddSumsWrongFalsely : Prop := fnExactAddSumsRow.holds Tryd.pinned (OpenSpec.ofChange fnExactAddSumsWrong)

/-- 'laws.FnExactByGroup': WHATEVER THE INPUT: true; the input reads as it did. -/
def fnExactByGroupSpec : ChangeSpec := { name := "fnExactByGroup", vars := ["loop.example/g00641/impl.toldByKind"], fn := fun _ => fun
  | [d1, d2, d3, g1] => { results := [.lit (.bool true)], args := [d1, d2, d3], vars := [g1] }
  | _ => none }
def fnExactByGroupRow : OpenClaim := { program := "ytdlcjcobfckncaadoor", sum := "2a8a1e501f8381058b8d1bfdfe05b6f56f262ca715a09233ab5a7ce5f6df7014", func := "loop.example/g00641/laws.FnExactByGroup", spec := "fnExactByGroup", unfollowed := true, recurses := true, named := ["loop.example/g00641/impl.toldByKind"], apart := false, laid := [("loop.example/g00641/impl.toldByKind", laid_loop_example_g00641_impl_toldByKind)] }
def FnExactByGroupSaid : Prop := fnExactByGroupRow.holds Tryd.pinned (OpenSpec.ofChange fnExactByGroupSpec)

/-- ITS FALSE NEIGHBOUR: 'it returns false'. Refute it at one input. -/
def fnExactByGroupWrong : ChangeSpec := { name := "fnExactByGroup", vars := ["loop.example/g00641/impl.toldByKind"], fn := fun _ => fun
  | [d1, d2, d3, g1] => { results := [.lit (.bool false)], args := [d1, d2, d3], vars := [g1] }
  | _ => none }
def FnExactByGroupWrongFalsely : Prop := fnExactByGroupRow.holds Tryd.pinned (OpenSpec.ofChange fnExactByGroupWrong)

/-- 'laws.FnExactCountWhere': WHATEVER THE INPUT: true; the input reads as it did. -/
def fnExactCountWhereSpec : ChangeSpec := { name := "fnExactCountWhere", vars := ["loop.example/g00641/impl.toldByKind"], fn := fun _ => fun
  | [d1, d2, d3, g1] => { results := [.lit (.bool true)], args := [d1, d2, d3], vars := [g1] }
  | _ => none }
def fnExactCountWhereRow : OpenClaim := { program := "ytdlcjcobfckncaadoor", sum := "2a8a1e501f8381058b8d1bfdfe05b6f56f262ca715a09233ab5a7ce5f6df7014", func := "loop.example/g00641/laws.FnExactCountWhere", spec := "fnExactCountWhere", unfollowed := true, recurses := true, named := ["loop.example/g00641/impl.toldByKind"], apart := false, laid := [("loop.example/g00641/impl.toldByKind", laid_loop_example_g00641_impl_toldByKind)] }
def FnExactCountWhereSaid : Prop := fnExactCountWhereRow.holds Tryd.pinned (OpenSpec.ofChange fnExactCountWhereSpec)

/-- ITS FALSE NEIGHBOUR: 'it returns false'. Refute it at one input. -/
def fnExactCountWhereWrong : ChangeSpec := { name := "fnExactCountWhere", vars := ["loop.example/g00641/impl.toldByKind"], fn := fun _ => fun
  | [d1, d2, d3, g1] => { results := [.lit (.bool false)], args := [d1, d2, d3], vars := [g1] }
  | _ => none }
def FnExactCountWhereWrongFalsely : Prop := fnExactCountWhereRow.holds Tryd.pinned (OpenSpec.ofChange fnExactCountWhereWrong)

/- THE SECOND FORM. 'bulk': how many values and letters a reading holds, each counted each time it is reached (what is shared counts as often as it is met; a slice's spare places count too). A statement '..UptoSaid' is the law's where the arguments, and the package variables that the reading takes, are together of bulk at most 1048576: NARROWER than '..Said'. Prove '..Said' where nothing that the law and all that it calls make is longer than what came in: it says more and counts as full. Else prove '..UptoSaid'. A law counts once. -/
mutual
def uptoBulk {H : Type} : DataW H → Nat
  | .lit (.string bytes) => bytes.length + 1
  | .lit _ => 1
  | .nil => 1
  | .ptr d => uptoBulk d + 1
  | .slice elems spare => uptoBulkAll elems + uptoBulkAll spare + 1
  | .agg parts => uptoBulkAll parts + 1
  | .iface _ d => uptoBulk d + 1
  | .map entries => uptoBulkEntries entries + 1
  | .held _ => 1
def uptoBulkAll {H : Type} : List (DataW H) → Nat
  | [] => 0
  | d :: r => uptoBulk d + uptoBulkAll r
def uptoBulkEntries {H : Type} : List (Lit × DataW H) → Nat
  | [] => 0
  | x :: r => uptoBulkEntry x + uptoBulkEntries r
def uptoBulkEntry {H : Type} : Lit × DataW H → Nat
  | (.string bytes, d) => bytes.length + uptoBulk d + 1
  | (_, d) => uptoBulk d + 1
 end
def uptoSmall : (H : Type) → List (DataW H) → Bool := fun _ ds => decide (uptoBulkAll ds ≤ 1048576)
def OpenSpec.upto (s : _root_.Go.ChangeSpec) : _root_.Go.OpenSpec := { _root_.Go.OpenSpec.ofChange s with cond := some uptoSmall }

/-- 'laws.FnSums', WHERE WHAT IT READS IS OF BULK AT MOST 1048576: true; the input reads as it did. -/
def fnSumsUptoRow : OpenClaim := { program := "ytdlcjcobfckncaadoor", sum := "2a8a1e501f8381058b8d1bfdfe05b6f56f262ca715a09233ab5a7ce5f6df7014", func := "loop.example/g00641/laws.FnSums", spec := "fnSums", named := ["loop.example/g00641/impl.toldByKind"], apart := false, laid := [("loop.example/g00641/impl.toldByKind", laid_loop_example_g00641_impl_toldByKind)], narrowed := true }
def FnSumsUptoSaid : Prop := fnSumsUptoRow.holds Tryd.pinned (OpenSpec.upto fnSumsSpec)

/-- 'laws.FnGrouped', WHERE WHAT IT READS IS OF BULK AT MOST 1048576: true; the input reads as it did. -/
def fnGroupedUptoRow : OpenClaim := { program := "ytdlcjcobfckncaadoor", sum := "2a8a1e501f8381058b8d1bfdfe05b6f56f262ca715a09233ab5a7ce5f6df7014", func := "loop.example/g00641/laws.FnGrouped", spec := "fnGrouped", unfollowed := true, recurses := true, named := ["loop.example/g00641/impl.toldByKind"], apart := false, laid := [("loop.example/g00641/impl.toldByKind", laid_loop_example_g00641_impl_toldByKind)], narrowed := true }
def FnGroupedUptoSaid : Prop := fnGroupedUptoRow.holds Tryd.pinned (OpenSpec.upto fnGroupedSpec)

/-- 'laws.FnExactChoose', WHERE WHAT IT READS IS OF BULK AT MOST 1048576: true; the input reads as it did. -/
def fnExactChooseUptoRow : OpenClaim := { program := "ytdlcjcobfckncaadoor", sum := "2a8a1e501f8381058b8d1bfdfe05b6f56f262ca715a09233ab5a7ce5f6df7014", func := "loop.example/g00641/laws.FnExactChoose", spec := "fnExactChoose", unfollowed := true, recurses := true, named := ["loop.example/g00641/impl.toldByKind"], apart := false, laid := [("loop.example/g00641/impl.toldByKind", laid_loop_example_g00641_impl_toldByKind)], narrowed := true }
def FnExactChooseUptoSaid : Prop := fnExactChooseUptoRow.holds Tryd.pinned (OpenSpec.upto fnExactChooseSpec)

/-- 'laws.FnExactSumOf', WHERE WHAT IT READS IS OF BULK AT MOST 1048576: true; the input reads as it did. -/
def fnExactSumOfUptoRow : OpenClaim := { program := "ytdlcjcobfckncaadoor", sum := "2a8a1e501f8381058b8d1bfdfe05b6f56f262ca715a09233ab5a7ce5f6df7014", func := "loop.example/g00641/laws.FnExactSumOf", spec := "fnExactSumOf", named := ["loop.example/g00641/impl.toldByKind"], apart := false, laid := [("loop.example/g00641/impl.toldByKind", laid_loop_example_g00641_impl_toldByKind)], narrowed := true }
def FnExactSumOfUptoSaid : Prop := fnExactSumOfUptoRow.holds Tryd.pinned (OpenSpec.upto fnExactSumOfSpec)

/-- 'laws.FnExactAddSums', WHERE WHAT IT READS IS OF BULK AT MOST 1048576: true; the input reads as it did. -/
def fnExactAddSumsUptoRow : OpenClaim := { program := "ytdlcjcobfckncaadoor", sum := "2a8a1e501f8381058b8d1bfdfe05b6f56f262ca715a09233ab5a7ce5f6df7014", func := "loop.example/g00641/laws.FnExactAddSums", spec := "fnExactAddSums", named := ["loop.example/g00641/impl.toldByKind"], apart := false, laid := [("loop.example/g00641/impl.toldByKind", laid_loop_example_g00641_impl_toldByKind)], narrowed := true }
def FnExactAddSumsUptoSaid : Prop := fnExactAddSumsUptoRow.holds Tryd.pinned (OpenSpec.upto fnExactAddSumsSpec)

/-- 'laws.FnExactByGroup', WHERE WHAT IT READS IS OF BULK AT MOST 1048576: true; the input reads as it did. -/
def fnExactByGroupUptoRow : OpenClaim := { program := "ytdlcjcobfckncaadoor", sum := "2a8a1e501f8381058b8d1bfdfe05b6f56f262ca715a09233ab5a7ce5f6df7014", func := "loop.example/g00641/laws.FnExactByGroup", spec := "fnExactByGroup", unfollowed := true, recurses := true, named := ["loop.example/g00641/impl.toldByKind"], apart := false, laid := [("loop.example/g00641/impl.toldByKind", laid_loop_example_g00641_impl_toldByKind)], narrowed := true }
def FnExactByGroupUptoSaid : Prop := fnExactByGroupUptoRow.holds Tryd.pinned (OpenSpec.upto fnExactByGroupSpec)

/-- 'laws.FnExactCountWhere', WHERE WHAT IT READS IS OF BULK AT MOST 1048576: true; the input reads as it did. -/
def fnExactCountWhereUptoRow : OpenClaim := { program := "ytdlcjcobfckncaadoor", sum := "2a8a1e501f8381058b8d1bfdfe05b6f56f262ca715a09233ab5a7ce5f6df7014", func := "loop.example/g00641/laws.FnExactCountWhere", spec := "fnExactCountWhere", unfollowed := true, recurses := true, named := ["loop.example/g00641/impl.toldByKind"], apart := false, laid := [("loop.example/g00641/impl.toldByKind", laid_loop_example_g00641_impl_toldByKind)], narrowed := true }
def FnExactCountWhereUptoSaid : Prop := fnExactCountWhereUptoRow.holds Tryd.pinned (OpenSpec.upto fnExactCountWhereSpec)

end Rows
end Go.Proofs.YtdlcjcobfckncaaDoor
