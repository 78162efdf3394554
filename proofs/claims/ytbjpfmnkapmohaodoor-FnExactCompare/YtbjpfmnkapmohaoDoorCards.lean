/-
  DERIVED. GIVEN WITH THE SEED: THE CARDS: each row of YtbjpfmnkapmohaoDoorRows.lean that lists a variable, with what it lists TIED to the program's text (the seventh form; the later family's looks); each row that meets fmt, with fmt's text TOLD by the authors' own Lean function (tested against real Go, not proved from fmt's source: count such statements apart). THE CARD IS WHAT COUNTS. Prove the row's statement (the work); the ties are given (YtbjpfmnkapmohaoDoorTie.lean); close each card by the builder's one call (the guide's Derived/Test/ToyasCard.lean, 'card_holds'). Laid BY PROGRAM, IN A SANDBOX (cutbox-door.mjs). By AI agents, Wed Nov 11 2026. No macro, syntax, notation, axiom, sorry.
-/
import Derived.Test.YtbjpfmnkapmohaoDoorRows
import GoSem.ClaimSeven
namespace Go.Proofs.YtbjpfmnkapmohaoDoor
namespace Rows

/-- THE TIED CARD OF 'laws.FnExactAndOf'. -/
def fnExactAndOfCard : Claim7 := { stood := { row := fnExactAndOfRow, standIns := [], harness := (true, "34b0053c7fb07cee3130e3560fb0a24cc431b493a9860ff88ee14e33f9a5cf42"), looks := false }, kinds := [], alts := [], laidByText := true, laidKinds := [.data], laidTests := true, laidLooks := .later }
def FnExactAndOfCardSaid : Prop := Claim7.holds Tryd.pinned (.plain (OpenSpec.ofChange fnExactAndOfSpec)) fnExactAndOfCard

/-- THE TIED CARD OF 'laws.FnExactOrOf'. -/
def fnExactOrOfCard : Claim7 := { stood := { row := fnExactOrOfRow, standIns := [], harness := (true, "34b0053c7fb07cee3130e3560fb0a24cc431b493a9860ff88ee14e33f9a5cf42"), looks := false }, kinds := [], alts := [], laidByText := true, laidKinds := [.data], laidTests := true, laidLooks := .later }
def FnExactOrOfCardSaid : Prop := Claim7.holds Tryd.pinned (.plain (OpenSpec.ofChange fnExactOrOfSpec)) fnExactOrOfCard

/-- THE TIED CARD OF 'laws.FnExactNotOf'. -/
def fnExactNotOfCard : Claim7 := { stood := { row := fnExactNotOfRow, standIns := [], harness := (true, "34b0053c7fb07cee3130e3560fb0a24cc431b493a9860ff88ee14e33f9a5cf42"), looks := false }, kinds := [], alts := [], laidByText := true, laidKinds := [.data], laidTests := true, laidLooks := .later }
def FnExactNotOfCardSaid : Prop := Claim7.holds Tryd.pinned (.plain (OpenSpec.ofChange fnExactNotOfSpec)) fnExactNotOfCard

/-- THE TIED CARD OF 'laws.FnExactCompare'. -/
def fnExactCompareCard : Claim7 := { stood := { row := fnExactCompareRow, standIns := [], harness := (true, "34b0053c7fb07cee3130e3560fb0a24cc431b493a9860ff88ee14e33f9a5cf42"), looks := false }, kinds := [], alts := [], laidByText := true, laidKinds := [.data], laidTests := true, laidLooks := .later }
def FnExactCompareCardSaid : Prop := Claim7.holds Tryd.pinned (.plain (OpenSpec.ofChange fnExactCompareSpec)) fnExactCompareCard

/-- THE SECOND FORM's CARD OF 'laws.FnExactAndOf'. -/
def fnExactAndOfUptoCard : Claim7 := { stood := { row := fnExactAndOfUptoRow, standIns := [], harness := (true, "34b0053c7fb07cee3130e3560fb0a24cc431b493a9860ff88ee14e33f9a5cf42"), looks := false }, kinds := [], alts := [], laidByText := true, laidKinds := [.data], laidTests := true, laidLooks := .later }
def FnExactAndOfUptoCardSaid : Prop := Claim7.holds Tryd.pinned (.plain (OpenSpec.upto fnExactAndOfSpec)) fnExactAndOfUptoCard

/-- THE SECOND FORM's CARD OF 'laws.FnExactOrOf'. -/
def fnExactOrOfUptoCard : Claim7 := { stood := { row := fnExactOrOfUptoRow, standIns := [], harness := (true, "34b0053c7fb07cee3130e3560fb0a24cc431b493a9860ff88ee14e33f9a5cf42"), looks := false }, kinds := [], alts := [], laidByText := true, laidKinds := [.data], laidTests := true, laidLooks := .later }
def FnExactOrOfUptoCardSaid : Prop := Claim7.holds Tryd.pinned (.plain (OpenSpec.upto fnExactOrOfSpec)) fnExactOrOfUptoCard

/-- THE SECOND FORM's CARD OF 'laws.FnExactNotOf'. -/
def fnExactNotOfUptoCard : Claim7 := { stood := { row := fnExactNotOfUptoRow, standIns := [], harness := (true, "34b0053c7fb07cee3130e3560fb0a24cc431b493a9860ff88ee14e33f9a5cf42"), looks := false }, kinds := [], alts := [], laidByText := true, laidKinds := [.data], laidTests := true, laidLooks := .later }
def FnExactNotOfUptoCardSaid : Prop := Claim7.holds Tryd.pinned (.plain (OpenSpec.upto fnExactNotOfSpec)) fnExactNotOfUptoCard

/-- THE SECOND FORM's CARD OF 'laws.FnExactCompare'. -/
def fnExactCompareUptoCard : Claim7 := { stood := { row := fnExactCompareUptoRow, standIns := [], harness := (true, "34b0053c7fb07cee3130e3560fb0a24cc431b493a9860ff88ee14e33f9a5cf42"), looks := false }, kinds := [], alts := [], laidByText := true, laidKinds := [.data], laidTests := true, laidLooks := .later }
def FnExactCompareUptoCardSaid : Prop := Claim7.holds Tryd.pinned (.plain (OpenSpec.upto fnExactCompareSpec)) fnExactCompareUptoCard
end Rows
end Go.Proofs.YtbjpfmnkapmohaoDoor
