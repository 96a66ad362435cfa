/-
  DERIVED. GIVEN WITH THE SEED: THE CARDS: each row of YtdehhobpfaaboaaDoorRows.lean that lists a variable, with what it lists TIED to the program's text (the seventh form; the later family's looks); each row that meets fmt, with fmt's text TOLD by the authors' own Lean function (tested against real Go, not proved from fmt's source: count such statements apart). THE CARD IS WHAT COUNTS. Prove the row's statement (the work); the ties are given (YtdehhobpfaaboaaDoorTie.lean); close each card by the builder's one call (the guide's Derived/Test/ToyasCard.lean, 'card_holds'). Laid BY PROGRAM, IN A SANDBOX (cutbox-door.mjs). By AI agents, Wed Nov 11 2026. No macro, syntax, notation, axiom, sorry.
-/
import Derived.Test.YtdehhobpfaaboaaDoorRows
import GoSem.ClaimSeven
namespace Go.Proofs.YtdehhobpfaaboaaDoor
namespace Rows

/-- THE TIED CARD OF 'laws.FnExactEmbedTerm'. -/
def fnExactEmbedTermCard : Claim7 := { stood := { row := fnExactEmbedTermRow, standIns := [], harness := (true, "cd56ac37d017824344ee0f5eb678d05489b991f4ff5d8fdf20dcf3b51c2de086"), looks := false }, kinds := [], alts := [], laidByText := true, laidKinds := [.data], laidTests := true, laidLooks := .later }
def FnExactEmbedTermCardSaid : Prop := Claim7.holds Tryd.pinned (.plain (OpenSpec.ofChange fnExactEmbedTermSpec)) fnExactEmbedTermCard

/-- THE TIED CARD OF 'laws.FnExactBlurTerm'. -/
def fnExactBlurTermCard : Claim7 := { stood := { row := fnExactBlurTermRow, standIns := [], harness := (true, "cd56ac37d017824344ee0f5eb678d05489b991f4ff5d8fdf20dcf3b51c2de086"), looks := false }, kinds := [], alts := [], laidByText := true, laidKinds := [.data], laidTests := true, laidLooks := .later }
def FnExactBlurTermCardSaid : Prop := Claim7.holds Tryd.pinned (.plain (OpenSpec.ofChange fnExactBlurTermSpec)) fnExactBlurTermCard

/-- THE TIED CARD OF 'laws.FnExactCountSlots'. -/
def fnExactCountSlotsCard : Claim7 := { stood := { row := fnExactCountSlotsRow, standIns := [], harness := (true, "cd56ac37d017824344ee0f5eb678d05489b991f4ff5d8fdf20dcf3b51c2de086"), looks := false }, kinds := [], alts := [], laidByText := true, laidKinds := [.data], laidTests := true, laidLooks := .later }
def FnExactCountSlotsCardSaid : Prop := Claim7.holds Tryd.pinned (.plain (OpenSpec.ofChange fnExactCountSlotsSpec)) fnExactCountSlotsCard

/-- THE TIED CARD OF 'laws.FnExactWrapTerm'. -/
def fnExactWrapTermCard : Claim7 := { stood := { row := fnExactWrapTermRow, standIns := [], harness := (true, "cd56ac37d017824344ee0f5eb678d05489b991f4ff5d8fdf20dcf3b51c2de086"), looks := false }, kinds := [], alts := [], laidByText := true, laidKinds := [.data], laidTests := true, laidLooks := .later }
def FnExactWrapTermCardSaid : Prop := Claim7.holds Tryd.pinned (.plain (OpenSpec.ofChange fnExactWrapTermSpec)) fnExactWrapTermCard

/-- THE TIED CARD OF 'laws.FnExactEraseTerm'. -/
def fnExactEraseTermCard : Claim7 := { stood := { row := fnExactEraseTermRow, standIns := [], harness := (true, "cd56ac37d017824344ee0f5eb678d05489b991f4ff5d8fdf20dcf3b51c2de086"), looks := false }, kinds := [], alts := [], laidByText := true, laidKinds := [.data], laidTests := true, laidLooks := .later }
def FnExactEraseTermCardSaid : Prop := Claim7.holds Tryd.pinned (.plain (OpenSpec.ofChange fnExactEraseTermSpec)) fnExactEraseTermCard

/-- THE TIED CARD OF 'laws.FnExactWithTypes'. -/
def fnExactWithTypesCard : Claim7 := { stood := { row := fnExactWithTypesRow, standIns := [], harness := (true, "cd56ac37d017824344ee0f5eb678d05489b991f4ff5d8fdf20dcf3b51c2de086"), looks := false }, kinds := [], alts := [], laidByText := true, laidKinds := [.data], laidTests := true, laidLooks := .later }
def FnExactWithTypesCardSaid : Prop := Claim7.holds Tryd.pinned (.plain (OpenSpec.ofChange fnExactWithTypesSpec)) fnExactWithTypesCard

/-- THE TIED CARD OF 'laws.FnExactSubstTerm'. -/
def fnExactSubstTermCard : Claim7 := { stood := { row := fnExactSubstTermRow, standIns := [], harness := (true, "cd56ac37d017824344ee0f5eb678d05489b991f4ff5d8fdf20dcf3b51c2de086"), looks := false }, kinds := [], alts := [], laidByText := true, laidKinds := [.data], laidTests := true, laidLooks := .later }
def FnExactSubstTermCardSaid : Prop := Claim7.holds Tryd.pinned (.plain (OpenSpec.ofChange fnExactSubstTermSpec)) fnExactSubstTermCard

/-- THE TIED CARD OF 'laws.FnExactBareTerm'. -/
def fnExactBareTermCard : Claim7 := { stood := { row := fnExactBareTermRow, standIns := [], harness := (true, "cd56ac37d017824344ee0f5eb678d05489b991f4ff5d8fdf20dcf3b51c2de086"), looks := false }, kinds := [], alts := [], laidByText := true, laidKinds := [.data], laidTests := true, laidLooks := .later }
def FnExactBareTermCardSaid : Prop := Claim7.holds Tryd.pinned (.plain (OpenSpec.ofChange fnExactBareTermSpec)) fnExactBareTermCard

/-- THE TIED CARD OF 'laws.FnExactTypeIn'. -/
def fnExactTypeInCard : Claim7 := { stood := { row := fnExactTypeInRow, standIns := [], harness := (true, "cd56ac37d017824344ee0f5eb678d05489b991f4ff5d8fdf20dcf3b51c2de086"), looks := false }, kinds := [], alts := [], laidByText := true, laidKinds := [.data], laidTests := true, laidLooks := .later }
def FnExactTypeInCardSaid : Prop := Claim7.holds Tryd.pinned (.plain (OpenSpec.ofChange fnExactTypeInSpec)) fnExactTypeInCard

/-- THE TIED CARD OF 'laws.FnExactTypeOf'. -/
def fnExactTypeOfCard : Claim7 := { stood := { row := fnExactTypeOfRow, standIns := [], harness := (true, "cd56ac37d017824344ee0f5eb678d05489b991f4ff5d8fdf20dcf3b51c2de086"), looks := false }, kinds := [], alts := [], laidByText := true, laidKinds := [.data], laidTests := true, laidLooks := .later }
def FnExactTypeOfCardSaid : Prop := Claim7.holds Tryd.pinned (.plain (OpenSpec.ofChange fnExactTypeOfSpec)) fnExactTypeOfCard

/-- THE TIED CARD OF 'laws.FnExactCastTypeOf'. -/
def fnExactCastTypeOfCard : Claim7 := { stood := { row := fnExactCastTypeOfRow, standIns := [], harness := (true, "cd56ac37d017824344ee0f5eb678d05489b991f4ff5d8fdf20dcf3b51c2de086"), looks := false }, kinds := [], alts := [], laidByText := true, laidKinds := [.data], laidTests := true, laidLooks := .later }
def FnExactCastTypeOfCardSaid : Prop := Claim7.holds Tryd.pinned (.plain (OpenSpec.ofChange fnExactCastTypeOfSpec)) fnExactCastTypeOfCard

/-- THE SECOND FORM's CARD OF 'laws.FnExactEmbedTerm'. -/
def fnExactEmbedTermUptoCard : Claim7 := { stood := { row := fnExactEmbedTermUptoRow, standIns := [], harness := (true, "cd56ac37d017824344ee0f5eb678d05489b991f4ff5d8fdf20dcf3b51c2de086"), looks := false }, kinds := [], alts := [], laidByText := true, laidKinds := [.data], laidTests := true, laidLooks := .later }
def FnExactEmbedTermUptoCardSaid : Prop := Claim7.holds Tryd.pinned (.plain (OpenSpec.upto fnExactEmbedTermSpec)) fnExactEmbedTermUptoCard

/-- THE SECOND FORM's CARD OF 'laws.FnExactBlurTerm'. -/
def fnExactBlurTermUptoCard : Claim7 := { stood := { row := fnExactBlurTermUptoRow, standIns := [], harness := (true, "cd56ac37d017824344ee0f5eb678d05489b991f4ff5d8fdf20dcf3b51c2de086"), looks := false }, kinds := [], alts := [], laidByText := true, laidKinds := [.data], laidTests := true, laidLooks := .later }
def FnExactBlurTermUptoCardSaid : Prop := Claim7.holds Tryd.pinned (.plain (OpenSpec.upto fnExactBlurTermSpec)) fnExactBlurTermUptoCard

/-- THE SECOND FORM's CARD OF 'laws.FnExactCountSlots'. -/
def fnExactCountSlotsUptoCard : Claim7 := { stood := { row := fnExactCountSlotsUptoRow, standIns := [], harness := (true, "cd56ac37d017824344ee0f5eb678d05489b991f4ff5d8fdf20dcf3b51c2de086"), looks := false }, kinds := [], alts := [], laidByText := true, laidKinds := [.data], laidTests := true, laidLooks := .later }
def FnExactCountSlotsUptoCardSaid : Prop := Claim7.holds Tryd.pinned (.plain (OpenSpec.upto fnExactCountSlotsSpec)) fnExactCountSlotsUptoCard

/-- THE SECOND FORM's CARD OF 'laws.FnExactWrapTerm'. -/
def fnExactWrapTermUptoCard : Claim7 := { stood := { row := fnExactWrapTermUptoRow, standIns := [], harness := (true, "cd56ac37d017824344ee0f5eb678d05489b991f4ff5d8fdf20dcf3b51c2de086"), looks := false }, kinds := [], alts := [], laidByText := true, laidKinds := [.data], laidTests := true, laidLooks := .later }
def FnExactWrapTermUptoCardSaid : Prop := Claim7.holds Tryd.pinned (.plain (OpenSpec.upto fnExactWrapTermSpec)) fnExactWrapTermUptoCard

/-- THE SECOND FORM's CARD OF 'laws.FnExactEraseTerm'. -/
def fnExactEraseTermUptoCard : Claim7 := { stood := { row := fnExactEraseTermUptoRow, standIns := [], harness := (true, "cd56ac37d017824344ee0f5eb678d05489b991f4ff5d8fdf20dcf3b51c2de086"), looks := false }, kinds := [], alts := [], laidByText := true, laidKinds := [.data], laidTests := true, laidLooks := .later }
def FnExactEraseTermUptoCardSaid : Prop := Claim7.holds Tryd.pinned (.plain (OpenSpec.upto fnExactEraseTermSpec)) fnExactEraseTermUptoCard

/-- THE SECOND FORM's CARD OF 'laws.FnExactWithTypes'. -/
def fnExactWithTypesUptoCard : Claim7 := { stood := { row := fnExactWithTypesUptoRow, standIns := [], harness := (true, "cd56ac37d017824344ee0f5eb678d05489b991f4ff5d8fdf20dcf3b51c2de086"), looks := false }, kinds := [], alts := [], laidByText := true, laidKinds := [.data], laidTests := true, laidLooks := .later }
def FnExactWithTypesUptoCardSaid : Prop := Claim7.holds Tryd.pinned (.plain (OpenSpec.upto fnExactWithTypesSpec)) fnExactWithTypesUptoCard

/-- THE SECOND FORM's CARD OF 'laws.FnExactSubstTerm'. -/
def fnExactSubstTermUptoCard : Claim7 := { stood := { row := fnExactSubstTermUptoRow, standIns := [], harness := (true, "cd56ac37d017824344ee0f5eb678d05489b991f4ff5d8fdf20dcf3b51c2de086"), looks := false }, kinds := [], alts := [], laidByText := true, laidKinds := [.data], laidTests := true, laidLooks := .later }
def FnExactSubstTermUptoCardSaid : Prop := Claim7.holds Tryd.pinned (.plain (OpenSpec.upto fnExactSubstTermSpec)) fnExactSubstTermUptoCard

/-- THE SECOND FORM's CARD OF 'laws.FnExactBareTerm'. -/
def fnExactBareTermUptoCard : Claim7 := { stood := { row := fnExactBareTermUptoRow, standIns := [], harness := (true, "cd56ac37d017824344ee0f5eb678d05489b991f4ff5d8fdf20dcf3b51c2de086"), looks := false }, kinds := [], alts := [], laidByText := true, laidKinds := [.data], laidTests := true, laidLooks := .later }
def FnExactBareTermUptoCardSaid : Prop := Claim7.holds Tryd.pinned (.plain (OpenSpec.upto fnExactBareTermSpec)) fnExactBareTermUptoCard

/-- THE SECOND FORM's CARD OF 'laws.FnExactTypeIn'. -/
def fnExactTypeInUptoCard : Claim7 := { stood := { row := fnExactTypeInUptoRow, standIns := [], harness := (true, "cd56ac37d017824344ee0f5eb678d05489b991f4ff5d8fdf20dcf3b51c2de086"), looks := false }, kinds := [], alts := [], laidByText := true, laidKinds := [.data], laidTests := true, laidLooks := .later }
def FnExactTypeInUptoCardSaid : Prop := Claim7.holds Tryd.pinned (.plain (OpenSpec.upto fnExactTypeInSpec)) fnExactTypeInUptoCard

/-- THE SECOND FORM's CARD OF 'laws.FnExactTypeOf'. -/
def fnExactTypeOfUptoCard : Claim7 := { stood := { row := fnExactTypeOfUptoRow, standIns := [], harness := (true, "cd56ac37d017824344ee0f5eb678d05489b991f4ff5d8fdf20dcf3b51c2de086"), looks := false }, kinds := [], alts := [], laidByText := true, laidKinds := [.data], laidTests := true, laidLooks := .later }
def FnExactTypeOfUptoCardSaid : Prop := Claim7.holds Tryd.pinned (.plain (OpenSpec.upto fnExactTypeOfSpec)) fnExactTypeOfUptoCard

/-- THE SECOND FORM's CARD OF 'laws.FnExactCastTypeOf'. -/
def fnExactCastTypeOfUptoCard : Claim7 := { stood := { row := fnExactCastTypeOfUptoRow, standIns := [], harness := (true, "cd56ac37d017824344ee0f5eb678d05489b991f4ff5d8fdf20dcf3b51c2de086"), looks := false }, kinds := [], alts := [], laidByText := true, laidKinds := [.data], laidTests := true, laidLooks := .later }
def FnExactCastTypeOfUptoCardSaid : Prop := Claim7.holds Tryd.pinned (.plain (OpenSpec.upto fnExactCastTypeOfSpec)) fnExactCastTypeOfUptoCard
end Rows
end Go.Proofs.YtdehhobpfaaboaaDoor
