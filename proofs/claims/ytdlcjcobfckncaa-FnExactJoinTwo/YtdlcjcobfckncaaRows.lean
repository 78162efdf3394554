/-
  No cell of these rows narrows 'for every input' (looked for: loops, veiled, ifaces, maps, wideKeys, modest, calm, conditions, laid).
  DERIVED. THE GIVEN ROWS OF THIS SEAT. 4 by the template 'for every input the law returns true; each argument reads behind the call as it read before'; 0 by the template 'total and deterministic' (their statements: YtdlcjcobfckncaaTotals.lean).
  GIVEN WITH THE SEED: the statements are not yours to turn. If you find one false, say at which input.
  Laid BY PROGRAM, IN A SANDBOX (cutbox-rows.mjs): the forced cells as the released guide's own fill.sh prints them over the translation ba5ca9e2e6927272… (all of the seat's roots in one cut). By AI agents, Wed Nov 11 2026. No macro, syntax, notation, axiom, sorry.
-/
import Derived.Test.YtdlcjcobfckncaaChecked
import GoSem.Claim
import GoSem.ClaimJoined
import GoSem.ClaimMapViews
import Derived.JoinedTies
import Derived.KernelRfl
namespace Go.Proofs.Ytdlcjcobfckncaa
/- THE CELL 'sum', in the pinned program and in every row, IS THE sha256 OF THE DUMP (.gsa) THAT YtdlcjcobfckncaaProg.lean LOADS. Nothing in Lean hashes anything: it is a label: what it is worth is what the hold of that sum in a sandbox is worth. -/
noncomputable def Try.pinned : Pinned := { name := "ytdlcjcobfckncaa", sum := "ba5ca9e2e6927272ca2315a4cb6d28318e6058c08d13f850f81f4d89c8ec7ee3", checked := Try.checked }
namespace Rows
def none {H : Type} : Left H := { results := [], args := [] }

/-- 'laws.FnExactJoinTwo': WHATEVER THE INPUT: true; the input reads as it did. -/
def fnExactJoinTwoSpec : ChangeSpec := { name := "fnExactJoinTwo", fn := fun _ => fun
  | [d1, d2] => { results := [.lit (.bool true)], args := [d1, d2] }
  | _ => none }
def fnExactJoinTwoRow : OpenClaim := { program := "ytdlcjcobfckncaa", sum := "ba5ca9e2e6927272ca2315a4cb6d28318e6058c08d13f850f81f4d89c8ec7ee3", func := "loop.example/g00641/laws.FnExactJoinTwo", spec := "fnExactJoinTwo", unfollowed := true, recurses := true, apart := false }
def FnExactJoinTwoSaid : Prop := fnExactJoinTwoRow.holds Try.pinned (OpenSpec.ofChange fnExactJoinTwoSpec)

/-- ITS FALSE NEIGHBOUR: 'it returns false'. Refute it at one input. -/
def fnExactJoinTwoWrong : ChangeSpec := { name := "fnExactJoinTwo", fn := fun _ => fun
  | [d1, d2] => { results := [.lit (.bool false)], args := [d1, d2] }
  | _ => none }
def FnExactJoinTwoWrongFalsely : Prop := fnExactJoinTwoRow.holds Try.pinned (OpenSpec.ofChange fnExactJoinTwoWrong)

/-- 'laws.FnExactGoodSum': WHATEVER THE INPUT: true; the input reads as it did. -/
def fnExactGoodSumSpec : ChangeSpec := { name := "fnExactGoodSum", fn := fun _ => fun
  | [d] => { results := [.lit (.bool true)], args := [d] }
  | _ => none }
def fnExactGoodSumRow : OpenClaim := { program := "ytdlcjcobfckncaa", sum := "ba5ca9e2e6927272ca2315a4cb6d28318e6058c08d13f850f81f4d89c8ec7ee3", func := "loop.example/g00641/laws.FnExactGoodSum", spec := "fnExactGoodSum", apart := false }
def FnExactGoodSumSaid : Prop := fnExactGoodSumRow.holds Try.pinned (OpenSpec.ofChange fnExactGoodSumSpec)

/-- ITS FALSE NEIGHBOUR: 'it returns false'. Refute it at one input. -/
def fnExactGoodSumWrong : ChangeSpec := { name := "fnExactGoodSum", fn := fun _ => fun
  | [d] => { results := [.lit (.bool false)], args := [d] }
  | _ => none }
def FnExactGoodSumWrongFalsely : Prop := fnExactGoodSumRow.holds Try.pinned (OpenSpec.ofChange fnExactGoodSumWrong)

/-- 'laws.FnExactMeanOf': WHATEVER THE INPUT: true; the input reads as it did. -/
def fnExactMeanOfSpec : ChangeSpec := { name := "fnExactMeanOf", fn := fun _ => fun
  | [d] => { results := [.lit (.bool true)], args := [d] }
  | _ => none }
def fnExactMeanOfRow : OpenClaim := { program := "ytdlcjcobfckncaa", sum := "ba5ca9e2e6927272ca2315a4cb6d28318e6058c08d13f850f81f4d89c8ec7ee3", func := "loop.example/g00641/laws.FnExactMeanOf", spec := "fnExactMeanOf", apart := false }
def FnExactMeanOfSaid : Prop := fnExactMeanOfRow.holds Try.pinned (OpenSpec.ofChange fnExactMeanOfSpec)

/-- ITS FALSE NEIGHBOUR: 'it returns false'. Refute it at one input. -/
def fnExactMeanOfWrong : ChangeSpec := { name := "fnExactMeanOf", fn := fun _ => fun
  | [d] => { results := [.lit (.bool false)], args := [d] }
  | _ => none }
def FnExactMeanOfWrongFalsely : Prop := fnExactMeanOfRow.holds Try.pinned (OpenSpec.ofChange fnExactMeanOfWrong)

/-- 'laws.FnExactDistinctOf': WHATEVER THE INPUT: true; the input reads as it did. -/
def fnExactDistinctOfSpec : ChangeSpec := { name := "fnExactDistinctOf", fn := fun _ => fun
  | [d] => { results := [.lit (.bool true)], args := [d] }
  | _ => none }
def fnExactDistinctOfRow : OpenClaim := { program := "ytdlcjcobfckncaa", sum := "ba5ca9e2e6927272ca2315a4cb6d28318e6058c08d13f850f81f4d89c8ec7ee3", func := "loop.example/g00641/laws.FnExactDistinctOf", spec := "fnExactDistinctOf", unfollowed := true, recurses := true, apart := false }
def FnExactDistinctOfSaid : Prop := fnExactDistinctOfRow.holds Try.pinned (OpenSpec.ofChange fnExactDistinctOfSpec)

/-- ITS FALSE NEIGHBOUR: 'it returns false'. Refute it at one input. -/
def fnExactDistinctOfWrong : ChangeSpec := { name := "fnExactDistinctOf", fn := fun _ => fun
  | [d] => { results := [.lit (.bool false)], args := [d] }
  | _ => none }
def FnExactDistinctOfWrongFalsely : Prop := fnExactDistinctOfRow.holds Try.pinned (OpenSpec.ofChange fnExactDistinctOfWrong)

/- THE SECOND FORM. 'bulk': how many values and letters a reading holds, each counted each time it is reached (what is shared counts as often as it is met; a slice's spare places count too). A statement '..UptoSaid' is the law's where the arguments, and the package variables that the reading takes, are together of bulk at most 1048576: NARROWER than '..Said'. Prove '..Said' where nothing that the law and all that it calls make is longer than what came in: it says more and counts as full. Else prove '..UptoSaid'. A law counts once. -/
mutual
def uptoBulk {H : Type} : DataW H → Nat
  | .lit (.string bytes) => bytes.length + 1
  | .lit _ => 1
  | .nil => 1
  | .ptr d => uptoBulk d + 1
  | .slice elems spare => uptoBulkAll elems + uptoBulkAll spare + 1
  | .agg parts => uptoBulkAll parts + 1
  | .iface _ d => uptoBulk d + 1
  | .map entries => uptoBulkEntries entries + 1
  | .held _ => 1
def uptoBulkAll {H : Type} : List (DataW H) → Nat
  | [] => 0
  | d :: r => uptoBulk d + uptoBulkAll r
def uptoBulkEntries {H : Type} : List (Lit × DataW H) → Nat
  | [] => 0
  | x :: r => uptoBulkEntry x + uptoBulkEntries r
def uptoBulkEntry {H : Type} : Lit × DataW H → Nat
  | (.string bytes, d) => bytes.length + uptoBulk d + 1
  | (_, d) => uptoBulk d + 1
 end
def uptoSmall : (H : Type) → List (DataW H) → Bool := fun _ ds => decide (uptoBulkAll ds ≤ 1048576)
def OpenSpec.upto (s : _root_.Go.ChangeSpec) : _root_.Go.OpenSpec := { _root_.Go.OpenSpec.ofChange s with cond := some uptoSmall }

/-- 'laws.FnExactJoinTwo', WHERE WHAT IT READS IS OF BULK AT MOST 1048576: true; the input reads as it did. -/
def fnExactJoinTwoUptoRow : OpenClaim := { program := "ytdlcjcobfckncaa", sum := "ba5ca9e2e6927272ca2315a4cb6d28318e6058c08d13f850f81f4d89c8ec7ee3", func := "loop.example/g00641/laws.FnExactJoinTwo", spec := "fnExactJoinTwo", unfollowed := true, recurses := true, apart := false, narrowed := true }
def FnExactJoinTwoUptoSaid : Prop := fnExactJoinTwoUptoRow.holds Try.pinned (OpenSpec.upto fnExactJoinTwoSpec)

/-- 'laws.FnExactGoodSum', WHERE WHAT IT READS IS OF BULK AT MOST 1048576: true; the input reads as it did. -/
def fnExactGoodSumUptoRow : OpenClaim := { program := "ytdlcjcobfckncaa", sum := "ba5ca9e2e6927272ca2315a4cb6d28318e6058c08d13f850f81f4d89c8ec7ee3", func := "loop.example/g00641/laws.FnExactGoodSum", spec := "fnExactGoodSum", apart := false, narrowed := true }
def FnExactGoodSumUptoSaid : Prop := fnExactGoodSumUptoRow.holds Try.pinned (OpenSpec.upto fnExactGoodSumSpec)

/-- 'laws.FnExactMeanOf', WHERE WHAT IT READS IS OF BULK AT MOST 1048576: true; the input reads as it did. -/
def fnExactMeanOfUptoRow : OpenClaim := { program := "ytdlcjcobfckncaa", sum := "ba5ca9e2e6927272ca2315a4cb6d28318e6058c08d13f850f81f4d89c8ec7ee3", func := "loop.example/g00641/laws.FnExactMeanOf", spec := "fnExactMeanOf", apart := false, narrowed := true }
def FnExactMeanOfUptoSaid : Prop := fnExactMeanOfUptoRow.holds Try.pinned (OpenSpec.upto fnExactMeanOfSpec)

/-- 'laws.FnExactDistinctOf', WHERE WHAT IT READS IS OF BULK AT MOST 1048576: true; the input reads as it did. -/
def fnExactDistinctOfUptoRow : OpenClaim := { program := "ytdlcjcobfckncaa", sum := "ba5ca9e2e6927272ca2315a4cb6d28318e6058c08d13f850f81f4d89c8ec7ee3", func := "loop.example/g00641/laws.FnExactDistinctOf", spec := "fnExactDistinctOf", unfollowed := true, recurses := true, apart := false, narrowed := true }
def FnExactDistinctOfUptoSaid : Prop := fnExactDistinctOfUptoRow.holds Try.pinned (OpenSpec.upto fnExactDistinctOfSpec)

end Rows
end Go.Proofs.Ytdlcjcobfckncaa
