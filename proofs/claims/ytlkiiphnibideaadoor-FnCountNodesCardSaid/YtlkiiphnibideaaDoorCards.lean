/-
  DERIVED. GIVEN WITH THE SEED: THE CARDS: each row of YtlkiiphnibideaaDoorRows.lean that lists a variable, with what it lists TIED to the program's text (the seventh form; the later family's looks); each row that meets fmt, with fmt's text TOLD by the authors' own Lean function (tested against real Go, not proved from fmt's source: count such statements apart). THE CARD IS WHAT COUNTS. Prove the row's statement (the work); the ties are given (YtlkiiphnibideaaDoorTie.lean); close each card by the builder's one call (the guide's Derived/Test/ToyasCard.lean, 'card_holds'). Laid BY PROGRAM, IN A SANDBOX (cutbox-door.mjs). By AI agents, Wed Nov 11 2026. No macro, syntax, notation, axiom, sorry.
-/
import Derived.Test.YtlkiiphnibideaaDoorRows
import GoSem.ClaimSeven
namespace Go.Proofs.YtlkiiphnibideaaDoor
namespace Rows

/-- THE TIED CARD OF 'laws.FnTermSame'. -/
def fnTermSameCard : Claim7 := { stood := { row := fnTermSameRow, standIns := [], harness := (true, "1b297cb646250a074caa998c25e0e3e06debcf97c06da0c68f0551e1b5981463"), looks := false }, kinds := [], alts := [], laidByText := true, laidKinds := [.data, .data, .data, .data], laidTests := true, laidLooks := .later }
def FnTermSameCardSaid : Prop := Claim7.holds Tryd.pinned (.plain (OpenSpec.ofChange fnTermSameSpec)) fnTermSameCard

/-- THE TIED CARD OF 'laws.FnSubstTerm'. -/
def fnSubstTermCard : Claim7 := { stood := { row := fnSubstTermRow, standIns := [], harness := (true, "1b297cb646250a074caa998c25e0e3e06debcf97c06da0c68f0551e1b5981463"), looks := false }, kinds := [], alts := [], laidByText := true, laidKinds := [.data], laidTests := true, laidLooks := .later }
def FnSubstTermCardSaid : Prop := Claim7.holds Tryd.pinned (.plain (OpenSpec.ofChange fnSubstTermSpec)) fnSubstTermCard

/-- THE TIED CARD OF 'laws.FnSubstTwice'. -/
def fnSubstTwiceCard : Claim7 := { stood := { row := fnSubstTwiceRow, standIns := [], harness := (true, "1b297cb646250a074caa998c25e0e3e06debcf97c06da0c68f0551e1b5981463"), looks := false }, kinds := [], alts := [], laidByText := true, laidKinds := [.data], laidTests := true, laidLooks := .later }
def FnSubstTwiceCardSaid : Prop := Claim7.holds Tryd.pinned (.plain (OpenSpec.ofChange fnSubstTwiceSpec)) fnSubstTwiceCard

/-- THE TIED CARD OF 'laws.FnWithTypes'. -/
def fnWithTypesCard : Claim7 := { stood := { row := fnWithTypesRow, standIns := [], harness := (true, "1b297cb646250a074caa998c25e0e3e06debcf97c06da0c68f0551e1b5981463"), looks := false }, kinds := [], alts := [], laidByText := true, laidKinds := [.data], laidTests := true, laidLooks := .later }
def FnWithTypesCardSaid : Prop := Claim7.holds Tryd.pinned (.plain (OpenSpec.ofChange fnWithTypesSpec)) fnWithTypesCard

/-- THE TIED CARD OF 'laws.FnEraseTerm'. -/
def fnEraseTermCard : Claim7 := { stood := { row := fnEraseTermRow, standIns := [], harness := (true, "1b297cb646250a074caa998c25e0e3e06debcf97c06da0c68f0551e1b5981463"), looks := false }, kinds := [], alts := [], laidByText := true, laidKinds := [.data], laidTests := true, laidLooks := .later }
def FnEraseTermCardSaid : Prop := Claim7.holds Tryd.pinned (.plain (OpenSpec.ofChange fnEraseTermSpec)) fnEraseTermCard

/-- THE TIED CARD OF 'laws.FnFreeNames'. -/
def fnFreeNamesCard : Claim7 := { stood := { row := fnFreeNamesRow, standIns := [], harness := (true, "1b297cb646250a074caa998c25e0e3e06debcf97c06da0c68f0551e1b5981463"), looks := false }, kinds := [], alts := [], laidByText := true, laidKinds := [.data], laidTests := true, laidLooks := .later }
def FnFreeNamesCardSaid : Prop := Claim7.holds Tryd.pinned (.plain (OpenSpec.ofChange fnFreeNamesSpec)) fnFreeNamesCard

/-- THE TIED CARD OF 'laws.FnCountNodes'. -/
def fnCountNodesCard : Claim7 := { stood := { row := fnCountNodesRow, standIns := [], harness := (true, "1b297cb646250a074caa998c25e0e3e06debcf97c06da0c68f0551e1b5981463"), looks := false }, kinds := [], alts := [], laidByText := true, laidKinds := [.data], laidTests := true, laidLooks := .later }
def FnCountNodesCardSaid : Prop := Claim7.holds Tryd.pinned (.plain (OpenSpec.ofChange fnCountNodesSpec)) fnCountNodesCard

/-- THE TIED CARD OF 'laws.FnSubstClosed'. -/
def fnSubstClosedCard : Claim7 := { stood := { row := fnSubstClosedRow, standIns := [], harness := (true, "1b297cb646250a074caa998c25e0e3e06debcf97c06da0c68f0551e1b5981463"), looks := false }, kinds := [], alts := [], laidByText := true, laidKinds := [.data], laidTests := true, laidLooks := .later }
def FnSubstClosedCardSaid : Prop := Claim7.holds Tryd.pinned (.plain (OpenSpec.ofChange fnSubstClosedSpec)) fnSubstClosedCard

/-- THE TIED CARD OF 'laws.FnTermParts'. -/
def fnTermPartsCard : Claim7 := { stood := { row := fnTermPartsRow, standIns := [], harness := (true, "1b297cb646250a074caa998c25e0e3e06debcf97c06da0c68f0551e1b5981463"), looks := false }, kinds := [], alts := [], laidByText := true, laidKinds := [.data], laidTests := true, laidLooks := .later }
def FnTermPartsCardSaid : Prop := Claim7.holds Tryd.pinned (.plain (OpenSpec.ofChange fnTermPartsSpec)) fnTermPartsCard

/-- THE SECOND FORM's CARD OF 'laws.FnTermSame'. -/
def fnTermSameUptoCard : Claim7 := { stood := { row := fnTermSameUptoRow, standIns := [], harness := (true, "1b297cb646250a074caa998c25e0e3e06debcf97c06da0c68f0551e1b5981463"), looks := false }, kinds := [], alts := [], laidByText := true, laidKinds := [.data, .data, .data, .data], laidTests := true, laidLooks := .later }
def FnTermSameUptoCardSaid : Prop := Claim7.holds Tryd.pinned (.plain (OpenSpec.upto fnTermSameSpec)) fnTermSameUptoCard

/-- THE SECOND FORM's CARD OF 'laws.FnSubstTerm'. -/
def fnSubstTermUptoCard : Claim7 := { stood := { row := fnSubstTermUptoRow, standIns := [], harness := (true, "1b297cb646250a074caa998c25e0e3e06debcf97c06da0c68f0551e1b5981463"), looks := false }, kinds := [], alts := [], laidByText := true, laidKinds := [.data], laidTests := true, laidLooks := .later }
def FnSubstTermUptoCardSaid : Prop := Claim7.holds Tryd.pinned (.plain (OpenSpec.upto fnSubstTermSpec)) fnSubstTermUptoCard

/-- THE SECOND FORM's CARD OF 'laws.FnSubstTwice'. -/
def fnSubstTwiceUptoCard : Claim7 := { stood := { row := fnSubstTwiceUptoRow, standIns := [], harness := (true, "1b297cb646250a074caa998c25e0e3e06debcf97c06da0c68f0551e1b5981463"), looks := false }, kinds := [], alts := [], laidByText := true, laidKinds := [.data], laidTests := true, laidLooks := .later }
def FnSubstTwiceUptoCardSaid : Prop := Claim7.holds Tryd.pinned (.plain (OpenSpec.upto fnSubstTwiceSpec)) fnSubstTwiceUptoCard

/-- THE SECOND FORM's CARD OF 'laws.FnWithTypes'. -/
def fnWithTypesUptoCard : Claim7 := { stood := { row := fnWithTypesUptoRow, standIns := [], harness := (true, "1b297cb646250a074caa998c25e0e3e06debcf97c06da0c68f0551e1b5981463"), looks := false }, kinds := [], alts := [], laidByText := true, laidKinds := [.data], laidTests := true, laidLooks := .later }
def FnWithTypesUptoCardSaid : Prop := Claim7.holds Tryd.pinned (.plain (OpenSpec.upto fnWithTypesSpec)) fnWithTypesUptoCard

/-- THE SECOND FORM's CARD OF 'laws.FnEraseTerm'. -/
def fnEraseTermUptoCard : Claim7 := { stood := { row := fnEraseTermUptoRow, standIns := [], harness := (true, "1b297cb646250a074caa998c25e0e3e06debcf97c06da0c68f0551e1b5981463"), looks := false }, kinds := [], alts := [], laidByText := true, laidKinds := [.data], laidTests := true, laidLooks := .later }
def FnEraseTermUptoCardSaid : Prop := Claim7.holds Tryd.pinned (.plain (OpenSpec.upto fnEraseTermSpec)) fnEraseTermUptoCard

/-- THE SECOND FORM's CARD OF 'laws.FnFreeNames'. -/
def fnFreeNamesUptoCard : Claim7 := { stood := { row := fnFreeNamesUptoRow, standIns := [], harness := (true, "1b297cb646250a074caa998c25e0e3e06debcf97c06da0c68f0551e1b5981463"), looks := false }, kinds := [], alts := [], laidByText := true, laidKinds := [.data], laidTests := true, laidLooks := .later }
def FnFreeNamesUptoCardSaid : Prop := Claim7.holds Tryd.pinned (.plain (OpenSpec.upto fnFreeNamesSpec)) fnFreeNamesUptoCard

/-- THE SECOND FORM's CARD OF 'laws.FnCountNodes'. -/
def fnCountNodesUptoCard : Claim7 := { stood := { row := fnCountNodesUptoRow, standIns := [], harness := (true, "1b297cb646250a074caa998c25e0e3e06debcf97c06da0c68f0551e1b5981463"), looks := false }, kinds := [], alts := [], laidByText := true, laidKinds := [.data], laidTests := true, laidLooks := .later }
def FnCountNodesUptoCardSaid : Prop := Claim7.holds Tryd.pinned (.plain (OpenSpec.upto fnCountNodesSpec)) fnCountNodesUptoCard

/-- THE SECOND FORM's CARD OF 'laws.FnSubstClosed'. -/
def fnSubstClosedUptoCard : Claim7 := { stood := { row := fnSubstClosedUptoRow, standIns := [], harness := (true, "1b297cb646250a074caa998c25e0e3e06debcf97c06da0c68f0551e1b5981463"), looks := false }, kinds := [], alts := [], laidByText := true, laidKinds := [.data], laidTests := true, laidLooks := .later }
def FnSubstClosedUptoCardSaid : Prop := Claim7.holds Tryd.pinned (.plain (OpenSpec.upto fnSubstClosedSpec)) fnSubstClosedUptoCard

/-- THE SECOND FORM's CARD OF 'laws.FnTermParts'. -/
def fnTermPartsUptoCard : Claim7 := { stood := { row := fnTermPartsUptoRow, standIns := [], harness := (true, "1b297cb646250a074caa998c25e0e3e06debcf97c06da0c68f0551e1b5981463"), looks := false }, kinds := [], alts := [], laidByText := true, laidKinds := [.data], laidTests := true, laidLooks := .later }
def FnTermPartsUptoCardSaid : Prop := Claim7.holds Tryd.pinned (.plain (OpenSpec.upto fnTermPartsSpec)) fnTermPartsUptoCard
end Rows
end Go.Proofs.YtlkiiphnibideaaDoor
