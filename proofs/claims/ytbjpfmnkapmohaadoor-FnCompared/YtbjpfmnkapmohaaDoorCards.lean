/-
  DERIVED. GIVEN WITH THE SEED: THE CARDS: each row of YtbjpfmnkapmohaaDoorRows.lean that lists a variable, with what it lists TIED to the program's text (the seventh form; the later family's looks); each row that meets fmt, with fmt's text TOLD by the authors' own Lean function (tested against real Go, not proved from fmt's source: count such statements apart). THE CARD IS WHAT COUNTS. Prove the row's statement (the work); the ties are given (YtbjpfmnkapmohaaDoorTie.lean); close each card by the builder's one call (the guide's Derived/Test/ToyasCard.lean, 'card_holds'). Laid BY PROGRAM, IN A SANDBOX (cutbox-door.mjs). By AI agents, Wed Nov 11 2026. No macro, syntax, notation, axiom, sorry.
-/
import Derived.Test.YtbjpfmnkapmohaaDoorRows
import GoSem.ClaimSeven
namespace Go.Proofs.YtbjpfmnkapmohaaDoor
namespace Rows

/-- THE TIED CARD OF 'laws.FnTruths'. -/
def fnTruthsCard : Claim7 := { stood := { row := fnTruthsRow, standIns := [], harness := (true, "eb66c0d2be7566cc51dc9fa153b781f2309a60da906ce9ac81d8f6e53f1c1e22"), looks := false }, kinds := [], alts := [], laidByText := true, laidKinds := [.data, .data, .data], laidTests := true, laidLooks := .later }
def FnTruthsCardSaid : Prop := Claim7.holds Tryd.pinned (.plain (OpenSpec.ofChange fnTruthsSpec)) fnTruthsCard

/-- THE TIED CARD OF 'laws.FnCompared'. -/
def fnComparedCard : Claim7 := { stood := { row := fnComparedRow, standIns := [], harness := (true, "eb66c0d2be7566cc51dc9fa153b781f2309a60da906ce9ac81d8f6e53f1c1e22"), looks := false }, kinds := [], alts := [], laidByText := true, laidKinds := [.data], laidTests := true, laidLooks := .later }
def FnComparedCardSaid : Prop := Claim7.holds Tryd.pinned (.plain (OpenSpec.ofChange fnComparedSpec)) fnComparedCard

/-- THE SECOND FORM's CARD OF 'laws.FnTruths'. -/
def fnTruthsUptoCard : Claim7 := { stood := { row := fnTruthsUptoRow, standIns := [], harness := (true, "eb66c0d2be7566cc51dc9fa153b781f2309a60da906ce9ac81d8f6e53f1c1e22"), looks := false }, kinds := [], alts := [], laidByText := true, laidKinds := [.data, .data, .data], laidTests := true, laidLooks := .later }
def FnTruthsUptoCardSaid : Prop := Claim7.holds Tryd.pinned (.plain (OpenSpec.upto fnTruthsSpec)) fnTruthsUptoCard

/-- THE SECOND FORM's CARD OF 'laws.FnCompared'. -/
def fnComparedUptoCard : Claim7 := { stood := { row := fnComparedUptoRow, standIns := [], harness := (true, "eb66c0d2be7566cc51dc9fa153b781f2309a60da906ce9ac81d8f6e53f1c1e22"), looks := false }, kinds := [], alts := [], laidByText := true, laidKinds := [.data], laidTests := true, laidLooks := .later }
def FnComparedUptoCardSaid : Prop := Claim7.holds Tryd.pinned (.plain (OpenSpec.upto fnComparedSpec)) fnComparedUptoCard
end Rows
end Go.Proofs.YtbjpfmnkapmohaaDoor
