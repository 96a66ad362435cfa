/-
  DERIVED. GIVEN WITH THE SEED: THE CARDS: each row of YtnpofpjaejnejaaDoorRows.lean that lists a variable, with what it lists TIED to the program's text (the seventh form; the later family's looks); each row that meets fmt, with fmt's text TOLD by the authors' own Lean function (tested against real Go, not proved from fmt's source: count such statements apart). THE CARD IS WHAT COUNTS. Prove the row's statement (the work); the ties are given (YtnpofpjaejnejaaDoorTie.lean); close each card by the builder's one call (the guide's Derived/Test/ToyasCard.lean, 'card_holds'). Laid BY PROGRAM, IN A SANDBOX (cutbox-door.mjs). By AI agents, Wed Nov 11 2026. No macro, syntax, notation, axiom, sorry.
-/
import Derived.Test.YtnpofpjaejnejaaDoorRows
import GoSem.ClaimSeven
namespace Go.Proofs.YtnpofpjaejnejaaDoor
namespace Rows

/-- THE TIED CARD OF 'laws.FnExactTermValid'. -/
def fnExactTermValidCard : Claim7 := { stood := { row := fnExactTermValidRow, standIns := [], harness := (true, "0b0d7a240020c8208518d0c06756f50f6092116c4997918b3cde7890d8b6071d"), looks := false }, kinds := [], alts := [], laidByText := true, laidKinds := [.data], laidTests := true, laidLooks := .later }
def FnExactTermValidCardSaid : Prop := Claim7.holds Tryd.pinned (.plain (OpenSpec.ofChange fnExactTermValidSpec)) fnExactTermValidCard

/-- THE TIED CARD OF 'laws.FnExactCountNodes'. -/
def fnExactCountNodesCard : Claim7 := { stood := { row := fnExactCountNodesRow, standIns := [], harness := (true, "0b0d7a240020c8208518d0c06756f50f6092116c4997918b3cde7890d8b6071d"), looks := false }, kinds := [], alts := [], laidByText := true, laidKinds := [.data], laidTests := true, laidLooks := .later }
def FnExactCountNodesCardSaid : Prop := Claim7.holds Tryd.pinned (.plain (OpenSpec.ofChange fnExactCountNodesSpec)) fnExactCountNodesCard

/-- THE TIED CARD OF 'laws.FnExactCastValid'. -/
def fnExactCastValidCard : Claim7 := { stood := { row := fnExactCastValidRow, standIns := [], harness := (true, "0b0d7a240020c8208518d0c06756f50f6092116c4997918b3cde7890d8b6071d"), looks := false }, kinds := [], alts := [], laidByText := true, laidKinds := [.data], laidTests := true, laidLooks := .later }
def FnExactCastValidCardSaid : Prop := Claim7.holds Tryd.pinned (.plain (OpenSpec.ofChange fnExactCastValidSpec)) fnExactCastValidCard

/-- THE TIED CARD OF 'laws.FnExactCastLabels'. -/
def fnExactCastLabelsCard : Claim7 := { stood := { row := fnExactCastLabelsRow, standIns := [], harness := (true, "0b0d7a240020c8208518d0c06756f50f6092116c4997918b3cde7890d8b6071d"), looks := false }, kinds := [], alts := [], laidByText := true, laidKinds := [.data], laidTests := true, laidLooks := .later }
def FnExactCastLabelsCardSaid : Prop := Claim7.holds Tryd.pinned (.plain (OpenSpec.ofChange fnExactCastLabelsSpec)) fnExactCastLabelsCard

/-- THE TIED CARD OF 'laws.FnExactCastTypes'. -/
def fnExactCastTypesCard : Claim7 := { stood := { row := fnExactCastTypesRow, standIns := [], harness := (true, "0b0d7a240020c8208518d0c06756f50f6092116c4997918b3cde7890d8b6071d"), looks := false }, kinds := [], alts := [], laidByText := true, laidKinds := [.data], laidTests := true, laidLooks := .later }
def FnExactCastTypesCardSaid : Prop := Claim7.holds Tryd.pinned (.plain (OpenSpec.ofChange fnExactCastTypesSpec)) fnExactCastTypesCard

/-- THE TIED CARD OF 'laws.FnExactBareTerm'. -/
def fnExactBareTermCard : Claim7 := { stood := { row := fnExactBareTermRow, standIns := [], harness := (true, "0b0d7a240020c8208518d0c06756f50f6092116c4997918b3cde7890d8b6071d"), looks := false }, kinds := [], alts := [], laidByText := true, laidKinds := [.data], laidTests := true, laidLooks := .later }
def FnExactBareTermCardSaid : Prop := Claim7.holds Tryd.pinned (.plain (OpenSpec.ofChange fnExactBareTermSpec)) fnExactBareTermCard

/-- THE TIED CARD OF 'laws.FnExactTermTypes'. -/
def fnExactTermTypesCard : Claim7 := { stood := { row := fnExactTermTypesRow, standIns := [], harness := (true, "0b0d7a240020c8208518d0c06756f50f6092116c4997918b3cde7890d8b6071d"), looks := false }, kinds := [], alts := [], laidByText := true, laidKinds := [.data], laidTests := true, laidLooks := .later }
def FnExactTermTypesCardSaid : Prop := Claim7.holds Tryd.pinned (.plain (OpenSpec.ofChange fnExactTermTypesSpec)) fnExactTermTypesCard

/-- THE TIED CARD OF 'laws.FnExactTypeIn'. -/
def fnExactTypeInCard : Claim7 := { stood := { row := fnExactTypeInRow, standIns := [], harness := (true, "0b0d7a240020c8208518d0c06756f50f6092116c4997918b3cde7890d8b6071d"), looks := false }, kinds := [], alts := [], laidByText := true, laidKinds := [.data], laidTests := true, laidLooks := .later }
def FnExactTypeInCardSaid : Prop := Claim7.holds Tryd.pinned (.plain (OpenSpec.ofChange fnExactTypeInSpec)) fnExactTypeInCard

/-- THE SECOND FORM's CARD OF 'laws.FnExactTermValid'. -/
def fnExactTermValidUptoCard : Claim7 := { stood := { row := fnExactTermValidUptoRow, standIns := [], harness := (true, "0b0d7a240020c8208518d0c06756f50f6092116c4997918b3cde7890d8b6071d"), looks := false }, kinds := [], alts := [], laidByText := true, laidKinds := [.data], laidTests := true, laidLooks := .later }
def FnExactTermValidUptoCardSaid : Prop := Claim7.holds Tryd.pinned (.plain (OpenSpec.upto fnExactTermValidSpec)) fnExactTermValidUptoCard

/-- THE SECOND FORM's CARD OF 'laws.FnExactCountNodes'. -/
def fnExactCountNodesUptoCard : Claim7 := { stood := { row := fnExactCountNodesUptoRow, standIns := [], harness := (true, "0b0d7a240020c8208518d0c06756f50f6092116c4997918b3cde7890d8b6071d"), looks := false }, kinds := [], alts := [], laidByText := true, laidKinds := [.data], laidTests := true, laidLooks := .later }
def FnExactCountNodesUptoCardSaid : Prop := Claim7.holds Tryd.pinned (.plain (OpenSpec.upto fnExactCountNodesSpec)) fnExactCountNodesUptoCard

/-- THE SECOND FORM's CARD OF 'laws.FnExactCastValid'. -/
def fnExactCastValidUptoCard : Claim7 := { stood := { row := fnExactCastValidUptoRow, standIns := [], harness := (true, "0b0d7a240020c8208518d0c06756f50f6092116c4997918b3cde7890d8b6071d"), looks := false }, kinds := [], alts := [], laidByText := true, laidKinds := [.data], laidTests := true, laidLooks := .later }
def FnExactCastValidUptoCardSaid : Prop := Claim7.holds Tryd.pinned (.plain (OpenSpec.upto fnExactCastValidSpec)) fnExactCastValidUptoCard

/-- THE SECOND FORM's CARD OF 'laws.FnExactCastLabels'. -/
def fnExactCastLabelsUptoCard : Claim7 := { stood := { row := fnExactCastLabelsUptoRow, standIns := [], harness := (true, "0b0d7a240020c8208518d0c06756f50f6092116c4997918b3cde7890d8b6071d"), looks := false }, kinds := [], alts := [], laidByText := true, laidKinds := [.data], laidTests := true, laidLooks := .later }
def FnExactCastLabelsUptoCardSaid : Prop := Claim7.holds Tryd.pinned (.plain (OpenSpec.upto fnExactCastLabelsSpec)) fnExactCastLabelsUptoCard

/-- THE SECOND FORM's CARD OF 'laws.FnExactCastTypes'. -/
def fnExactCastTypesUptoCard : Claim7 := { stood := { row := fnExactCastTypesUptoRow, standIns := [], harness := (true, "0b0d7a240020c8208518d0c06756f50f6092116c4997918b3cde7890d8b6071d"), looks := false }, kinds := [], alts := [], laidByText := true, laidKinds := [.data], laidTests := true, laidLooks := .later }
def FnExactCastTypesUptoCardSaid : Prop := Claim7.holds Tryd.pinned (.plain (OpenSpec.upto fnExactCastTypesSpec)) fnExactCastTypesUptoCard

/-- THE SECOND FORM's CARD OF 'laws.FnExactBareTerm'. -/
def fnExactBareTermUptoCard : Claim7 := { stood := { row := fnExactBareTermUptoRow, standIns := [], harness := (true, "0b0d7a240020c8208518d0c06756f50f6092116c4997918b3cde7890d8b6071d"), looks := false }, kinds := [], alts := [], laidByText := true, laidKinds := [.data], laidTests := true, laidLooks := .later }
def FnExactBareTermUptoCardSaid : Prop := Claim7.holds Tryd.pinned (.plain (OpenSpec.upto fnExactBareTermSpec)) fnExactBareTermUptoCard

/-- THE SECOND FORM's CARD OF 'laws.FnExactTermTypes'. -/
def fnExactTermTypesUptoCard : Claim7 := { stood := { row := fnExactTermTypesUptoRow, standIns := [], harness := (true, "0b0d7a240020c8208518d0c06756f50f6092116c4997918b3cde7890d8b6071d"), looks := false }, kinds := [], alts := [], laidByText := true, laidKinds := [.data], laidTests := true, laidLooks := .later }
def FnExactTermTypesUptoCardSaid : Prop := Claim7.holds Tryd.pinned (.plain (OpenSpec.upto fnExactTermTypesSpec)) fnExactTermTypesUptoCard

/-- THE SECOND FORM's CARD OF 'laws.FnExactTypeIn'. -/
def fnExactTypeInUptoCard : Claim7 := { stood := { row := fnExactTypeInUptoRow, standIns := [], harness := (true, "0b0d7a240020c8208518d0c06756f50f6092116c4997918b3cde7890d8b6071d"), looks := false }, kinds := [], alts := [], laidByText := true, laidKinds := [.data], laidTests := true, laidLooks := .later }
def FnExactTypeInUptoCardSaid : Prop := Claim7.holds Tryd.pinned (.plain (OpenSpec.upto fnExactTypeInSpec)) fnExactTypeInUptoCard
end Rows
end Go.Proofs.YtnpofpjaejnejaaDoor
