/-
  No cell of these rows narrows 'for every input' (looked for: loops, veiled, ifaces, maps, wideKeys, modest, calm, conditions, laid).
  DERIVED. THE GIVEN ROWS OF THIS SEAT. 3 by the template 'for every input the law returns true; each argument reads behind the call as it read before'; 0 by the template 'total and deterministic' (their statements: YteihhpjneeaiaaaTotals.lean).
  GIVEN WITH THE SEED: the statements are not yours to turn. If you find one false, say at which input.
  Laid BY PROGRAM, IN A SANDBOX (cutbox-rows.mjs): the forced cells as the released guide's own fill.sh prints them over the translation 1323cf38ac1e215e… (all of the seat's roots in one cut). By AI agents, Wed Nov 11 2026. No macro, syntax, notation, axiom, sorry.
-/
import Derived.Test.YteihhpjneeaiaaaChecked
import GoSem.Claim
import GoSem.ClaimJoined
import GoSem.ClaimMapViews
import Derived.JoinedTies
import Derived.KernelRfl
namespace Go.Proofs.Yteihhpjneeaiaaa
/- THE CELL 'sum', in the pinned program and in every row, IS THE sha256 OF THE DUMP (.gsa) THAT YteihhpjneeaiaaaProg.lean LOADS. Nothing in Lean hashes anything: it is a label: what it is worth is what the hold of that sum in a sandbox is worth. -/
noncomputable def Try.pinned : Pinned := { name := "yteihhpjneeaiaaa", sum := "1323cf38ac1e215e0db799e3e6f6feea0019b9c5274bc089850029be93151f8b", checked := Try.checked }
namespace Rows
def none {H : Type} : Left H := { results := [], args := [] }

/-- 'laws.FnExactGoodRelation': WHATEVER THE INPUT: true; the input reads as it did. -/
def fnExactGoodRelationSpec : ChangeSpec := { name := "fnExactGoodRelation", fn := fun _ => fun
  | [d] => { results := [.lit (.bool true)], args := [d] }
  | _ => none }
def fnExactGoodRelationRow : OpenClaim := { program := "yteihhpjneeaiaaa", sum := "1323cf38ac1e215e0db799e3e6f6feea0019b9c5274bc089850029be93151f8b", func := "loop.example/g00641/laws.FnExactGoodRelation", spec := "fnExactGoodRelation", unfollowed := true, recurses := true, apart := false }
def FnExactGoodRelationSaid : Prop := fnExactGoodRelationRow.holds Try.pinned (OpenSpec.ofChange fnExactGoodRelationSpec)

/-- ITS FALSE NEIGHBOUR: 'it returns false'. Refute it at one input. -/
def fnExactGoodRelationWrong : ChangeSpec := { name := "fnExactGoodRelation", fn := fun _ => fun
  | [d] => { results := [.lit (.bool false)], args := [d] }
  | _ => none }
def FnExactGoodRelationWrongFalsely : Prop := fnExactGoodRelationRow.holds Try.pinned (OpenSpec.ofChange fnExactGoodRelationWrong)

/-- 'laws.FnExactProject': WHATEVER THE INPUT: true; the input reads as it did. -/
def fnExactProjectSpec : ChangeSpec := { name := "fnExactProject", fn := fun _ => fun
  | [d1, d2] => { results := [.lit (.bool true)], args := [d1, d2] }
  | _ => none }
def fnExactProjectRow : OpenClaim := { program := "yteihhpjneeaiaaa", sum := "1323cf38ac1e215e0db799e3e6f6feea0019b9c5274bc089850029be93151f8b", func := "loop.example/g00641/laws.FnExactProject", spec := "fnExactProject", unfollowed := true, recurses := true, apart := false }
def FnExactProjectSaid : Prop := fnExactProjectRow.holds Try.pinned (OpenSpec.ofChange fnExactProjectSpec)

/-- ITS FALSE NEIGHBOUR: 'it returns false'. Refute it at one input. -/
def fnExactProjectWrong : ChangeSpec := { name := "fnExactProject", fn := fun _ => fun
  | [d1, d2] => { results := [.lit (.bool false)], args := [d1, d2] }
  | _ => none }
def FnExactProjectWrongFalsely : Prop := fnExactProjectRow.holds Try.pinned (OpenSpec.ofChange fnExactProjectWrong)

/-- 'laws.FnExactJoinTwo': WHATEVER THE INPUT: true; the input reads as it did. -/
def fnExactJoinTwoSpec : ChangeSpec := { name := "fnExactJoinTwo", fn := fun _ => fun
  | [d1, d2] => { results := [.lit (.bool true)], args := [d1, d2] }
  | _ => none }
def fnExactJoinTwoRow : OpenClaim := { program := "yteihhpjneeaiaaa", sum := "1323cf38ac1e215e0db799e3e6f6feea0019b9c5274bc089850029be93151f8b", func := "loop.example/g00641/laws.FnExactJoinTwo", spec := "fnExactJoinTwo", unfollowed := true, recurses := true, apart := false }
def FnExactJoinTwoSaid : Prop := fnExactJoinTwoRow.holds Try.pinned (OpenSpec.ofChange fnExactJoinTwoSpec)

/-- ITS FALSE NEIGHBOUR: 'it returns false'. Refute it at one input. -/
def fnExactJoinTwoWrong : ChangeSpec := { name := "fnExactJoinTwo", fn := fun _ => fun
  | [d1, d2] => { results := [.lit (.bool false)], args := [d1, d2] }
  | _ => none }
def FnExactJoinTwoWrongFalsely : Prop := fnExactJoinTwoRow.holds Try.pinned (OpenSpec.ofChange fnExactJoinTwoWrong)

/- THE SECOND FORM. 'bulk': how many values and letters a reading holds, each counted each time it is reached (what is shared counts as often as it is met; a slice's spare places count too). A statement '..UptoSaid' is the law's where the arguments, and the package variables that the reading takes, are together of bulk at most 1048576: NARROWER than '..Said'. Prove '..Said' where nothing that the law and all that it calls make is longer than what came in: it says more and counts as full. Else prove '..UptoSaid'. A law counts once. -/
mutual
def uptoBulk {H : Type} : DataW H → Nat
  | .lit (.string bytes) => bytes.length + 1
  | .lit _ => 1
  | .nil => 1
  | .ptr d => uptoBulk d + 1
  | .slice elems spare => uptoBulkAll elems + uptoBulkAll spare + 1
  | .agg parts => uptoBulkAll parts + 1
  | .iface _ d => uptoBulk d + 1
  | .map entries => uptoBulkEntries entries + 1
  | .held _ => 1
def uptoBulkAll {H : Type} : List (DataW H) → Nat
  | [] => 0
  | d :: r => uptoBulk d + uptoBulkAll r
def uptoBulkEntries {H : Type} : List (Lit × DataW H) → Nat
  | [] => 0
  | x :: r => uptoBulkEntry x + uptoBulkEntries r
def uptoBulkEntry {H : Type} : Lit × DataW H → Nat
  | (.string bytes, d) => bytes.length + uptoBulk d + 1
  | (_, d) => uptoBulk d + 1
 end
def uptoSmall : (H : Type) → List (DataW H) → Bool := fun _ ds => decide (uptoBulkAll ds ≤ 1048576)
def OpenSpec.upto (s : _root_.Go.ChangeSpec) : _root_.Go.OpenSpec := { _root_.Go.OpenSpec.ofChange s with cond := some uptoSmall }

/-- 'laws.FnExactGoodRelation', WHERE WHAT IT READS IS OF BULK AT MOST 1048576: true; the input reads as it did. -/
def fnExactGoodRelationUptoRow : OpenClaim := { program := "yteihhpjneeaiaaa", sum := "1323cf38ac1e215e0db799e3e6f6feea0019b9c5274bc089850029be93151f8b", func := "loop.example/g00641/laws.FnExactGoodRelation", spec := "fnExactGoodRelation", unfollowed := true, recurses := true, apart := false, narrowed := true }
def FnExactGoodRelationUptoSaid : Prop := fnExactGoodRelationUptoRow.holds Try.pinned (OpenSpec.upto fnExactGoodRelationSpec)

/-- 'laws.FnExactProject', WHERE WHAT IT READS IS OF BULK AT MOST 1048576: true; the input reads as it did. -/
def fnExactProjectUptoRow : OpenClaim := { program := "yteihhpjneeaiaaa", sum := "1323cf38ac1e215e0db799e3e6f6feea0019b9c5274bc089850029be93151f8b", func := "loop.example/g00641/laws.FnExactProject", spec := "fnExactProject", unfollowed := true, recurses := true, apart := false, narrowed := true }
def FnExactProjectUptoSaid : Prop := fnExactProjectUptoRow.holds Try.pinned (OpenSpec.upto fnExactProjectSpec)

/-- 'laws.FnExactJoinTwo', WHERE WHAT IT READS IS OF BULK AT MOST 1048576: true; the input reads as it did. -/
def fnExactJoinTwoUptoRow : OpenClaim := { program := "yteihhpjneeaiaaa", sum := "1323cf38ac1e215e0db799e3e6f6feea0019b9c5274bc089850029be93151f8b", func := "loop.example/g00641/laws.FnExactJoinTwo", spec := "fnExactJoinTwo", unfollowed := true, recurses := true, apart := false, narrowed := true }
def FnExactJoinTwoUptoSaid : Prop := fnExactJoinTwoUptoRow.holds Try.pinned (OpenSpec.upto fnExactJoinTwoSpec)

end Rows
end Go.Proofs.Yteihhpjneeaiaaa
