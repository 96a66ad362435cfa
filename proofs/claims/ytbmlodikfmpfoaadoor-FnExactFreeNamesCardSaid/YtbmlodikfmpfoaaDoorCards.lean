/-
  DERIVED. GIVEN WITH THE SEED: THE CARDS: each row of YtbmlodikfmpfoaaDoorRows.lean that lists a variable, with what it lists TIED to the program's text (the seventh form; the later family's looks); each row that meets fmt, with fmt's text TOLD by the authors' own Lean function (tested against real Go, not proved from fmt's source: count such statements apart). THE CARD IS WHAT COUNTS. Prove the row's statement (the work); the ties are given (YtbmlodikfmpfoaaDoorTie.lean); close each card by the builder's one call (the guide's Derived/Test/ToyasCard.lean, 'card_holds'). Laid BY PROGRAM, IN A SANDBOX (cutbox-door.mjs). By AI agents, Wed Nov 11 2026. No macro, syntax, notation, axiom, sorry.
-/
import Derived.Test.YtbmlodikfmpfoaaDoorRows
import GoSem.ClaimSeven
namespace Go.Proofs.YtbmlodikfmpfoaaDoor
namespace Rows

/-- THE TIED CARD OF 'laws.FnExactBareTerm'. -/
def fnExactBareTermCard : Claim7 := { stood := { row := fnExactBareTermRow, standIns := [], harness := (true, "a057dc95b7ff09bbfbac3a96f52f2ffdb9b2ffeeee3e3834b1f655bd13d46ac1"), looks := false }, kinds := [], alts := [], laidByText := true, laidKinds := [.data], laidTests := true, laidLooks := .later }
def FnExactBareTermCardSaid : Prop := Claim7.holds Tryd.pinned (.plain (OpenSpec.ofChange fnExactBareTermSpec)) fnExactBareTermCard

/-- THE TIED CARD OF 'laws.FnExactCastTypes'. -/
def fnExactCastTypesCard : Claim7 := { stood := { row := fnExactCastTypesRow, standIns := [], harness := (true, "a057dc95b7ff09bbfbac3a96f52f2ffdb9b2ffeeee3e3834b1f655bd13d46ac1"), looks := false }, kinds := [], alts := [], laidByText := true, laidKinds := [.data], laidTests := true, laidLooks := .later }
def FnExactCastTypesCardSaid : Prop := Claim7.holds Tryd.pinned (.plain (OpenSpec.ofChange fnExactCastTypesSpec)) fnExactCastTypesCard

/-- THE TIED CARD OF 'laws.FnExactCastLabels'. -/
def fnExactCastLabelsCard : Claim7 := { stood := { row := fnExactCastLabelsRow, standIns := [], harness := (true, "a057dc95b7ff09bbfbac3a96f52f2ffdb9b2ffeeee3e3834b1f655bd13d46ac1"), looks := false }, kinds := [], alts := [], laidByText := true, laidKinds := [.data], laidTests := true, laidLooks := .later }
def FnExactCastLabelsCardSaid : Prop := Claim7.holds Tryd.pinned (.plain (OpenSpec.ofChange fnExactCastLabelsSpec)) fnExactCastLabelsCard

/-- THE TIED CARD OF 'laws.FnExactCastTypeOf'. -/
def fnExactCastTypeOfCard : Claim7 := { stood := { row := fnExactCastTypeOfRow, standIns := [], harness := (true, "a057dc95b7ff09bbfbac3a96f52f2ffdb9b2ffeeee3e3834b1f655bd13d46ac1"), looks := false }, kinds := [], alts := [], laidByText := true, laidKinds := [.data], laidTests := true, laidLooks := .later }
def FnExactCastTypeOfCardSaid : Prop := Claim7.holds Tryd.pinned (.plain (OpenSpec.ofChange fnExactCastTypeOfSpec)) fnExactCastTypeOfCard

/-- THE TIED CARD OF 'laws.FnExactTypeIn'. -/
def fnExactTypeInCard : Claim7 := { stood := { row := fnExactTypeInRow, standIns := [], harness := (true, "a057dc95b7ff09bbfbac3a96f52f2ffdb9b2ffeeee3e3834b1f655bd13d46ac1"), looks := false }, kinds := [], alts := [], laidByText := true, laidKinds := [.data], laidTests := true, laidLooks := .later }
def FnExactTypeInCardSaid : Prop := Claim7.holds Tryd.pinned (.plain (OpenSpec.ofChange fnExactTypeInSpec)) fnExactTypeInCard

/-- THE TIED CARD OF 'laws.FnExactFormatTerm'. -/
def fnExactFormatTermCard : Claim7 := { stood := { row := fnExactFormatTermRow, standIns := [], harness := (true, "a057dc95b7ff09bbfbac3a96f52f2ffdb9b2ffeeee3e3834b1f655bd13d46ac1"), looks := false }, kinds := [], alts := [], laidByText := true, laidKinds := [.data, .data, .data, .data], laidTests := true, laidLooks := .later }
def FnExactFormatTermCardSaid : Prop := Claim7.holds Tryd.pinned (.plain (OpenSpec.ofChange fnExactFormatTermSpec)) fnExactFormatTermCard

/-- THE TIED CARD OF 'laws.FnExactFormatCast'. -/
def fnExactFormatCastCard : Claim7 := { stood := { row := fnExactFormatCastRow, standIns := [], harness := (true, "a057dc95b7ff09bbfbac3a96f52f2ffdb9b2ffeeee3e3834b1f655bd13d46ac1"), looks := false }, kinds := [], alts := [], laidByText := true, laidKinds := [.data, .data, .data, .data], laidTests := true, laidLooks := .later }
def FnExactFormatCastCardSaid : Prop := Claim7.holds Tryd.pinned (.plain (OpenSpec.ofChange fnExactFormatCastSpec)) fnExactFormatCastCard

/-- THE TIED CARD OF 'laws.FnExactSubstTerm'. -/
def fnExactSubstTermCard : Claim7 := { stood := { row := fnExactSubstTermRow, standIns := [], harness := (true, "a057dc95b7ff09bbfbac3a96f52f2ffdb9b2ffeeee3e3834b1f655bd13d46ac1"), looks := false }, kinds := [], alts := [], laidByText := true, laidKinds := [.data], laidTests := true, laidLooks := .later }
def FnExactSubstTermCardSaid : Prop := Claim7.holds Tryd.pinned (.plain (OpenSpec.ofChange fnExactSubstTermSpec)) fnExactSubstTermCard

/-- THE TIED CARD OF 'laws.FnExactFreeNames'. -/
def fnExactFreeNamesCard : Claim7 := { stood := { row := fnExactFreeNamesRow, standIns := [], harness := (true, "a057dc95b7ff09bbfbac3a96f52f2ffdb9b2ffeeee3e3834b1f655bd13d46ac1"), looks := false }, kinds := [], alts := [], laidByText := true, laidKinds := [.data], laidTests := true, laidLooks := .later }
def FnExactFreeNamesCardSaid : Prop := Claim7.holds Tryd.pinned (.plain (OpenSpec.ofChange fnExactFreeNamesSpec)) fnExactFreeNamesCard

/-- THE TIED CARD OF 'laws.FnExactTypeOf'. -/
def fnExactTypeOfCard : Claim7 := { stood := { row := fnExactTypeOfRow, standIns := [], harness := (true, "a057dc95b7ff09bbfbac3a96f52f2ffdb9b2ffeeee3e3834b1f655bd13d46ac1"), looks := false }, kinds := [], alts := [], laidByText := true, laidKinds := [.data], laidTests := true, laidLooks := .later }
def FnExactTypeOfCardSaid : Prop := Claim7.holds Tryd.pinned (.plain (OpenSpec.ofChange fnExactTypeOfSpec)) fnExactTypeOfCard

/-- THE SECOND FORM's CARD OF 'laws.FnExactBareTerm'. -/
def fnExactBareTermUptoCard : Claim7 := { stood := { row := fnExactBareTermUptoRow, standIns := [], harness := (true, "a057dc95b7ff09bbfbac3a96f52f2ffdb9b2ffeeee3e3834b1f655bd13d46ac1"), looks := false }, kinds := [], alts := [], laidByText := true, laidKinds := [.data], laidTests := true, laidLooks := .later }
def FnExactBareTermUptoCardSaid : Prop := Claim7.holds Tryd.pinned (.plain (OpenSpec.upto fnExactBareTermSpec)) fnExactBareTermUptoCard

/-- THE SECOND FORM's CARD OF 'laws.FnExactCastTypes'. -/
def fnExactCastTypesUptoCard : Claim7 := { stood := { row := fnExactCastTypesUptoRow, standIns := [], harness := (true, "a057dc95b7ff09bbfbac3a96f52f2ffdb9b2ffeeee3e3834b1f655bd13d46ac1"), looks := false }, kinds := [], alts := [], laidByText := true, laidKinds := [.data], laidTests := true, laidLooks := .later }
def FnExactCastTypesUptoCardSaid : Prop := Claim7.holds Tryd.pinned (.plain (OpenSpec.upto fnExactCastTypesSpec)) fnExactCastTypesUptoCard

/-- THE SECOND FORM's CARD OF 'laws.FnExactCastLabels'. -/
def fnExactCastLabelsUptoCard : Claim7 := { stood := { row := fnExactCastLabelsUptoRow, standIns := [], harness := (true, "a057dc95b7ff09bbfbac3a96f52f2ffdb9b2ffeeee3e3834b1f655bd13d46ac1"), looks := false }, kinds := [], alts := [], laidByText := true, laidKinds := [.data], laidTests := true, laidLooks := .later }
def FnExactCastLabelsUptoCardSaid : Prop := Claim7.holds Tryd.pinned (.plain (OpenSpec.upto fnExactCastLabelsSpec)) fnExactCastLabelsUptoCard

/-- THE SECOND FORM's CARD OF 'laws.FnExactCastTypeOf'. -/
def fnExactCastTypeOfUptoCard : Claim7 := { stood := { row := fnExactCastTypeOfUptoRow, standIns := [], harness := (true, "a057dc95b7ff09bbfbac3a96f52f2ffdb9b2ffeeee3e3834b1f655bd13d46ac1"), looks := false }, kinds := [], alts := [], laidByText := true, laidKinds := [.data], laidTests := true, laidLooks := .later }
def FnExactCastTypeOfUptoCardSaid : Prop := Claim7.holds Tryd.pinned (.plain (OpenSpec.upto fnExactCastTypeOfSpec)) fnExactCastTypeOfUptoCard

/-- THE SECOND FORM's CARD OF 'laws.FnExactTypeIn'. -/
def fnExactTypeInUptoCard : Claim7 := { stood := { row := fnExactTypeInUptoRow, standIns := [], harness := (true, "a057dc95b7ff09bbfbac3a96f52f2ffdb9b2ffeeee3e3834b1f655bd13d46ac1"), looks := false }, kinds := [], alts := [], laidByText := true, laidKinds := [.data], laidTests := true, laidLooks := .later }
def FnExactTypeInUptoCardSaid : Prop := Claim7.holds Tryd.pinned (.plain (OpenSpec.upto fnExactTypeInSpec)) fnExactTypeInUptoCard

/-- THE SECOND FORM's CARD OF 'laws.FnExactFormatTerm'. -/
def fnExactFormatTermUptoCard : Claim7 := { stood := { row := fnExactFormatTermUptoRow, standIns := [], harness := (true, "a057dc95b7ff09bbfbac3a96f52f2ffdb9b2ffeeee3e3834b1f655bd13d46ac1"), looks := false }, kinds := [], alts := [], laidByText := true, laidKinds := [.data, .data, .data, .data], laidTests := true, laidLooks := .later }
def FnExactFormatTermUptoCardSaid : Prop := Claim7.holds Tryd.pinned (.plain (OpenSpec.upto fnExactFormatTermSpec)) fnExactFormatTermUptoCard

/-- THE SECOND FORM's CARD OF 'laws.FnExactFormatCast'. -/
def fnExactFormatCastUptoCard : Claim7 := { stood := { row := fnExactFormatCastUptoRow, standIns := [], harness := (true, "a057dc95b7ff09bbfbac3a96f52f2ffdb9b2ffeeee3e3834b1f655bd13d46ac1"), looks := false }, kinds := [], alts := [], laidByText := true, laidKinds := [.data, .data, .data, .data], laidTests := true, laidLooks := .later }
def FnExactFormatCastUptoCardSaid : Prop := Claim7.holds Tryd.pinned (.plain (OpenSpec.upto fnExactFormatCastSpec)) fnExactFormatCastUptoCard

/-- THE SECOND FORM's CARD OF 'laws.FnExactSubstTerm'. -/
def fnExactSubstTermUptoCard : Claim7 := { stood := { row := fnExactSubstTermUptoRow, standIns := [], harness := (true, "a057dc95b7ff09bbfbac3a96f52f2ffdb9b2ffeeee3e3834b1f655bd13d46ac1"), looks := false }, kinds := [], alts := [], laidByText := true, laidKinds := [.data], laidTests := true, laidLooks := .later }
def FnExactSubstTermUptoCardSaid : Prop := Claim7.holds Tryd.pinned (.plain (OpenSpec.upto fnExactSubstTermSpec)) fnExactSubstTermUptoCard

/-- THE SECOND FORM's CARD OF 'laws.FnExactFreeNames'. -/
def fnExactFreeNamesUptoCard : Claim7 := { stood := { row := fnExactFreeNamesUptoRow, standIns := [], harness := (true, "a057dc95b7ff09bbfbac3a96f52f2ffdb9b2ffeeee3e3834b1f655bd13d46ac1"), looks := false }, kinds := [], alts := [], laidByText := true, laidKinds := [.data], laidTests := true, laidLooks := .later }
def FnExactFreeNamesUptoCardSaid : Prop := Claim7.holds Tryd.pinned (.plain (OpenSpec.upto fnExactFreeNamesSpec)) fnExactFreeNamesUptoCard

/-- THE SECOND FORM's CARD OF 'laws.FnExactTypeOf'. -/
def fnExactTypeOfUptoCard : Claim7 := { stood := { row := fnExactTypeOfUptoRow, standIns := [], harness := (true, "a057dc95b7ff09bbfbac3a96f52f2ffdb9b2ffeeee3e3834b1f655bd13d46ac1"), looks := false }, kinds := [], alts := [], laidByText := true, laidKinds := [.data], laidTests := true, laidLooks := .later }
def FnExactTypeOfUptoCardSaid : Prop := Claim7.holds Tryd.pinned (.plain (OpenSpec.upto fnExactTypeOfSpec)) fnExactTypeOfUptoCard
end Rows
end Go.Proofs.YtbmlodikfmpfoaaDoor
