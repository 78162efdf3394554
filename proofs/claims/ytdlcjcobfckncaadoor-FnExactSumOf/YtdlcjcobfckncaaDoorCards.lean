/-
  DERIVED. GIVEN WITH THE SEED: THE CARDS: each row of YtdlcjcobfckncaaDoorRows.lean that lists a variable, with what it lists TIED to the program's text (the seventh form; the later family's looks); each row that meets fmt, with fmt's text TOLD by the authors' own Lean function (tested against real Go, not proved from fmt's source: count such statements apart). THE CARD IS WHAT COUNTS. Prove the row's statement (the work); the ties are given (YtdlcjcobfckncaaDoorTie.lean); close each card by the builder's one call (the guide's Derived/Test/ToyasCard.lean, 'card_holds'). Laid BY PROGRAM, IN A SANDBOX (cutbox-door.mjs). By AI agents, Wed Nov 11 2026. No macro, syntax, notation, axiom, sorry.
-/
import Derived.Test.YtdlcjcobfckncaaDoorRows
import GoSem.ClaimSeven
namespace Go.Proofs.YtdlcjcobfckncaaDoor
namespace Rows

/-- THE TIED CARD OF 'laws.FnSums'. -/
def fnSumsCard : Claim7 := { stood := { row := fnSumsRow, standIns := [], harness := (true, "fe56cc3581bdfa6e8a7c7eb8352d0e834c2c2ff44ae6aac1c7a962a501d232c8"), looks := false }, kinds := [], alts := [], laidByText := true, laidKinds := [.data], laidTests := true, laidLooks := .later }
def FnSumsCardSaid : Prop := Claim7.holds Tryd.pinned (.plain (OpenSpec.ofChange fnSumsSpec)) fnSumsCard

/-- THE TIED CARD OF 'laws.FnGrouped'. -/
def fnGroupedCard : Claim7 := { stood := { row := fnGroupedRow, standIns := [], harness := (true, "fe56cc3581bdfa6e8a7c7eb8352d0e834c2c2ff44ae6aac1c7a962a501d232c8"), looks := false }, kinds := [], alts := [], laidByText := true, laidKinds := [.data], laidTests := true, laidLooks := .later }
def FnGroupedCardSaid : Prop := Claim7.holds Tryd.pinned (.plain (OpenSpec.ofChange fnGroupedSpec)) fnGroupedCard

/-- THE TIED CARD OF 'laws.FnExactChoose'. -/
def fnExactChooseCard : Claim7 := { stood := { row := fnExactChooseRow, standIns := [], harness := (true, "fe56cc3581bdfa6e8a7c7eb8352d0e834c2c2ff44ae6aac1c7a962a501d232c8"), looks := false }, kinds := [], alts := [], laidByText := true, laidKinds := [.data], laidTests := true, laidLooks := .later }
def FnExactChooseCardSaid : Prop := Claim7.holds Tryd.pinned (.plain (OpenSpec.ofChange fnExactChooseSpec)) fnExactChooseCard

/-- THE TIED CARD OF 'laws.FnExactSumOf'. -/
def fnExactSumOfCard : Claim7 := { stood := { row := fnExactSumOfRow, standIns := [], harness := (true, "fe56cc3581bdfa6e8a7c7eb8352d0e834c2c2ff44ae6aac1c7a962a501d232c8"), looks := false }, kinds := [], alts := [], laidByText := true, laidKinds := [.data], laidTests := true, laidLooks := .later }
def FnExactSumOfCardSaid : Prop := Claim7.holds Tryd.pinned (.plain (OpenSpec.ofChange fnExactSumOfSpec)) fnExactSumOfCard

/-- THE TIED CARD OF 'laws.FnExactAddSums'. -/
def fnExactAddSumsCard : Claim7 := { stood := { row := fnExactAddSumsRow, standIns := [], harness := (true, "fe56cc3581bdfa6e8a7c7eb8352d0e834c2c2ff44ae6aac1c7a962a501d232c8"), looks := false }, kinds := [], alts := [], laidByText := true, laidKinds := [.data], laidTests := true, laidLooks := .later }
def FnExactAddSumsCardSaid : Prop := Claim7.holds Tryd.pinned (.plain (OpenSpec.ofChange fnExactAddSumsSpec)) fnExactAddSumsCard

/-- THE TIED CARD OF 'laws.FnExactByGroup'. -/
def fnExactByGroupCard : Claim7 := { stood := { row := fnExactByGroupRow, standIns := [], harness := (true, "fe56cc3581bdfa6e8a7c7eb8352d0e834c2c2ff44ae6aac1c7a962a501d232c8"), looks := false }, kinds := [], alts := [], laidByText := true, laidKinds := [.data], laidTests := true, laidLooks := .later }
def FnExactByGroupCardSaid : Prop := Claim7.holds Tryd.pinned (.plain (OpenSpec.ofChange fnExactByGroupSpec)) fnExactByGroupCard

/-- THE TIED CARD OF 'laws.FnExactCountWhere'. -/
def fnExactCountWhereCard : Claim7 := { stood := { row := fnExactCountWhereRow, standIns := [], harness := (true, "fe56cc3581bdfa6e8a7c7eb8352d0e834c2c2ff44ae6aac1c7a962a501d232c8"), looks := false }, kinds := [], alts := [], laidByText := true, laidKinds := [.data], laidTests := true, laidLooks := .later }
def FnExactCountWhereCardSaid : Prop := Claim7.holds Tryd.pinned (.plain (OpenSpec.ofChange fnExactCountWhereSpec)) fnExactCountWhereCard

/-- THE SECOND FORM's CARD OF 'laws.FnSums'. -/
def fnSumsUptoCard : Claim7 := { stood := { row := fnSumsUptoRow, standIns := [], harness := (true, "fe56cc3581bdfa6e8a7c7eb8352d0e834c2c2ff44ae6aac1c7a962a501d232c8"), looks := false }, kinds := [], alts := [], laidByText := true, laidKinds := [.data], laidTests := true, laidLooks := .later }
def FnSumsUptoCardSaid : Prop := Claim7.holds Tryd.pinned (.plain (OpenSpec.upto fnSumsSpec)) fnSumsUptoCard

/-- THE SECOND FORM's CARD OF 'laws.FnGrouped'. -/
def fnGroupedUptoCard : Claim7 := { stood := { row := fnGroupedUptoRow, standIns := [], harness := (true, "fe56cc3581bdfa6e8a7c7eb8352d0e834c2c2ff44ae6aac1c7a962a501d232c8"), looks := false }, kinds := [], alts := [], laidByText := true, laidKinds := [.data], laidTests := true, laidLooks := .later }
def FnGroupedUptoCardSaid : Prop := Claim7.holds Tryd.pinned (.plain (OpenSpec.upto fnGroupedSpec)) fnGroupedUptoCard

/-- THE SECOND FORM's CARD OF 'laws.FnExactChoose'. -/
def fnExactChooseUptoCard : Claim7 := { stood := { row := fnExactChooseUptoRow, standIns := [], harness := (true, "fe56cc3581bdfa6e8a7c7eb8352d0e834c2c2ff44ae6aac1c7a962a501d232c8"), looks := false }, kinds := [], alts := [], laidByText := true, laidKinds := [.data], laidTests := true, laidLooks := .later }
def FnExactChooseUptoCardSaid : Prop := Claim7.holds Tryd.pinned (.plain (OpenSpec.upto fnExactChooseSpec)) fnExactChooseUptoCard

/-- THE SECOND FORM's CARD OF 'laws.FnExactSumOf'. -/
def fnExactSumOfUptoCard : Claim7 := { stood := { row := fnExactSumOfUptoRow, standIns := [], harness := (true, "fe56cc3581bdfa6e8a7c7eb8352d0e834c2c2ff44ae6aac1c7a962a501d232c8"), looks := false }, kinds := [], alts := [], laidByText := true, laidKinds := [.data], laidTests := true, laidLooks := .later }
def FnExactSumOfUptoCardSaid : Prop := Claim7.holds Tryd.pinned (.plain (OpenSpec.upto fnExactSumOfSpec)) fnExactSumOfUptoCard

/-- THE SECOND FORM's CARD OF 'laws.FnExactAddSums'. -/
def fnExactAddSumsUptoCard : Claim7 := { stood := { row := fnExactAddSumsUptoRow, standIns := [], harness := (true, "fe56cc3581bdfa6e8a7c7eb8352d0e834c2c2ff44ae6aac1c7a962a501d232c8"), looks := false }, kinds := [], alts := [], laidByText := true, laidKinds := [.data], laidTests := true, laidLooks := .later }
def FnExactAddSumsUptoCardSaid : Prop := Claim7.holds Tryd.pinned (.plain (OpenSpec.upto fnExactAddSumsSpec)) fnExactAddSumsUptoCard

/-- THE SECOND FORM's CARD OF 'laws.FnExactByGroup'. -/
def fnExactByGroupUptoCard : Claim7 := { stood := { row := fnExactByGroupUptoRow, standIns := [], harness := (true, "fe56cc3581bdfa6e8a7c7eb8352d0e834c2c2ff44ae6aac1c7a962a501d232c8"), looks := false }, kinds := [], alts := [], laidByText := true, laidKinds := [.data], laidTests := true, laidLooks := .later }
def FnExactByGroupUptoCardSaid : Prop := Claim7.holds Tryd.pinned (.plain (OpenSpec.upto fnExactByGroupSpec)) fnExactByGroupUptoCard

/-- THE SECOND FORM's CARD OF 'laws.FnExactCountWhere'. -/
def fnExactCountWhereUptoCard : Claim7 := { stood := { row := fnExactCountWhereUptoRow, standIns := [], harness := (true, "fe56cc3581bdfa6e8a7c7eb8352d0e834c2c2ff44ae6aac1c7a962a501d232c8"), looks := false }, kinds := [], alts := [], laidByText := true, laidKinds := [.data], laidTests := true, laidLooks := .later }
def FnExactCountWhereUptoCardSaid : Prop := Claim7.holds Tryd.pinned (.plain (OpenSpec.upto fnExactCountWhereSpec)) fnExactCountWhereUptoCard
end Rows
end Go.Proofs.YtdlcjcobfckncaaDoor
