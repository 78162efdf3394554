/-
  DERIVED. GIVEN WITH THE SEED: THE CARDS: each row of YtbjpfmnkapmohapDoorRows.lean that lists a variable, with what it lists TIED to the program's text (the seventh form; the later family's looks); each row that meets fmt, with fmt's text TOLD by the authors' own Lean function (tested against real Go, not proved from fmt's source: count such statements apart). THE CARD IS WHAT COUNTS. Prove the row's statement (the work); the ties are given (YtbjpfmnkapmohapDoorTie.lean); close each card by the builder's one call (the guide's Derived/Test/ToyasCard.lean, 'card_holds'). Laid BY PROGRAM, IN A SANDBOX (cutbox-door.mjs). By AI agents, Wed Nov 11 2026. No macro, syntax, notation, axiom, sorry.
-/
import Derived.Test.YtbjpfmnkapmohapDoorRows
import GoSem.ClaimSeven
namespace Go.Proofs.YtbjpfmnkapmohapDoor
namespace Rows

/-- THE TIED CARD OF 'laws.FnExactAllOf'. -/
def fnExactAllOfCard : Claim7 := { stood := { row := fnExactAllOfRow, standIns := [], harness := (true, "69db1770442a3aa8cc196292249c08fcdfbac2c9bac5ee1aab46382f7fcc6b3d"), looks := false }, kinds := [], alts := [], laidByText := true, laidKinds := [.data], laidTests := true, laidLooks := .later }
def FnExactAllOfCardSaid : Prop := Claim7.holds Tryd.pinned (.plain (OpenSpec.ofChange fnExactAllOfSpec)) fnExactAllOfCard

/-- THE SECOND FORM's CARD OF 'laws.FnExactAllOf'. -/
def fnExactAllOfUptoCard : Claim7 := { stood := { row := fnExactAllOfUptoRow, standIns := [], harness := (true, "69db1770442a3aa8cc196292249c08fcdfbac2c9bac5ee1aab46382f7fcc6b3d"), looks := false }, kinds := [], alts := [], laidByText := true, laidKinds := [.data], laidTests := true, laidLooks := .later }
def FnExactAllOfUptoCardSaid : Prop := Claim7.holds Tryd.pinned (.plain (OpenSpec.upto fnExactAllOfSpec)) fnExactAllOfUptoCard
end Rows
end Go.Proofs.YtbjpfmnkapmohapDoor
