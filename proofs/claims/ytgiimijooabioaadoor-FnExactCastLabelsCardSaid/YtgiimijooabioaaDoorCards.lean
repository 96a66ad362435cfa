/-
  DERIVED. GIVEN WITH THE SEED: THE CARDS: each row of YtgiimijooabioaaDoorRows.lean that lists a variable, with what it lists TIED to the program's text (the seventh form; the later family's looks); each row that meets fmt, with fmt's text TOLD by the authors' own Lean function (tested against real Go, not proved from fmt's source: count such statements apart). THE CARD IS WHAT COUNTS. Prove the row's statement (the work); the ties are given (YtgiimijooabioaaDoorTie.lean); close each card by the builder's one call (the guide's Derived/Test/ToyasCard.lean, 'card_holds'). Laid BY PROGRAM, IN A SANDBOX (cutbox-door.mjs). By AI agents, Wed Nov 11 2026. No macro, syntax, notation, axiom, sorry.
-/
import Derived.Test.YtgiimijooabioaaDoorRows
import GoSem.ClaimSeven
namespace Go.Proofs.YtgiimijooabioaaDoor
namespace Rows

/-- THE TIED CARD OF 'laws.FnExactSafeFor'. -/
def fnExactSafeForCard : Claim7 := { stood := { row := fnExactSafeForRow, standIns := [], harness := (true, "ae9ecfb42159e6db664857d8712bbe31e6560086f1313f6c5da23fa713976d28"), looks := false }, kinds := [], alts := [], laidByText := true, laidKinds := [.data], laidTests := true, laidLooks := .later }
def FnExactSafeForCardSaid : Prop := Claim7.holds Tryd.pinned (.plain (OpenSpec.ofChange fnExactSafeForSpec)) fnExactSafeForCard

/-- THE TIED CARD OF 'laws.FnExactUnsafeLabels'. -/
def fnExactUnsafeLabelsCard : Claim7 := { stood := { row := fnExactUnsafeLabelsRow, standIns := [], harness := (true, "ae9ecfb42159e6db664857d8712bbe31e6560086f1313f6c5da23fa713976d28"), looks := false }, kinds := [], alts := [], laidByText := true, laidKinds := [.data], laidTests := true, laidLooks := .later }
def FnExactUnsafeLabelsCardSaid : Prop := Claim7.holds Tryd.pinned (.plain (OpenSpec.ofChange fnExactUnsafeLabelsSpec)) fnExactUnsafeLabelsCard

/-- THE TIED CARD OF 'laws.FnExactSafeTerm'. -/
def fnExactSafeTermCard : Claim7 := { stood := { row := fnExactSafeTermRow, standIns := [], harness := (true, "ae9ecfb42159e6db664857d8712bbe31e6560086f1313f6c5da23fa713976d28"), looks := false }, kinds := [], alts := [], laidByText := true, laidKinds := [.data], laidTests := true, laidLooks := .later }
def FnExactSafeTermCardSaid : Prop := Claim7.holds Tryd.pinned (.plain (OpenSpec.ofChange fnExactSafeTermSpec)) fnExactSafeTermCard

/-- THE TIED CARD OF 'laws.FnExactCastLabels'. -/
def fnExactCastLabelsCard : Claim7 := { stood := { row := fnExactCastLabelsRow, standIns := [], harness := (true, "ae9ecfb42159e6db664857d8712bbe31e6560086f1313f6c5da23fa713976d28"), looks := false }, kinds := [], alts := [], laidByText := true, laidKinds := [.data], laidTests := true, laidLooks := .later }
def FnExactCastLabelsCardSaid : Prop := Claim7.holds Tryd.pinned (.plain (OpenSpec.ofChange fnExactCastLabelsSpec)) fnExactCastLabelsCard

/-- THE TIED CARD OF 'laws.FnExactParseTerm'. -/
def fnExactParseTermCard : Claim7 := { stood := { row := fnExactParseTermRow, standIns := [], harness := (true, "ae9ecfb42159e6db664857d8712bbe31e6560086f1313f6c5da23fa713976d28"), looks := false }, kinds := [], alts := [], laidByText := true, laidKinds := [.data], laidTests := true, laidLooks := .later }
def FnExactParseTermCardSaid : Prop := Claim7.holds Tryd.pinned (.plain (OpenSpec.ofChange fnExactParseTermSpec)) fnExactParseTermCard

/-- THE TIED CARD OF 'laws.FnExactParseCast'. -/
def fnExactParseCastCard : Claim7 := { stood := { row := fnExactParseCastRow, standIns := [], harness := (true, "ae9ecfb42159e6db664857d8712bbe31e6560086f1313f6c5da23fa713976d28"), looks := false }, kinds := [], alts := [], laidByText := true, laidKinds := [.data], laidTests := true, laidLooks := .later }
def FnExactParseCastCardSaid : Prop := Claim7.holds Tryd.pinned (.plain (OpenSpec.ofChange fnExactParseCastSpec)) fnExactParseCastCard

/-- THE TIED CARD OF 'laws.FnExactTypeIn'. -/
def fnExactTypeInCard : Claim7 := { stood := { row := fnExactTypeInRow, standIns := [], harness := (true, "ae9ecfb42159e6db664857d8712bbe31e6560086f1313f6c5da23fa713976d28"), looks := false }, kinds := [], alts := [], laidByText := true, laidKinds := [.data], laidTests := true, laidLooks := .later }
def FnExactTypeInCardSaid : Prop := Claim7.holds Tryd.pinned (.plain (OpenSpec.ofChange fnExactTypeInSpec)) fnExactTypeInCard

/-- THE TIED CARD OF 'laws.FnExactTypeOf'. -/
def fnExactTypeOfCard : Claim7 := { stood := { row := fnExactTypeOfRow, standIns := [], harness := (true, "ae9ecfb42159e6db664857d8712bbe31e6560086f1313f6c5da23fa713976d28"), looks := false }, kinds := [], alts := [], laidByText := true, laidKinds := [.data], laidTests := true, laidLooks := .later }
def FnExactTypeOfCardSaid : Prop := Claim7.holds Tryd.pinned (.plain (OpenSpec.ofChange fnExactTypeOfSpec)) fnExactTypeOfCard

/-- THE TIED CARD OF 'laws.FnExactCastTypeOf'. -/
def fnExactCastTypeOfCard : Claim7 := { stood := { row := fnExactCastTypeOfRow, standIns := [], harness := (true, "ae9ecfb42159e6db664857d8712bbe31e6560086f1313f6c5da23fa713976d28"), looks := false }, kinds := [], alts := [], laidByText := true, laidKinds := [.data], laidTests := true, laidLooks := .later }
def FnExactCastTypeOfCardSaid : Prop := Claim7.holds Tryd.pinned (.plain (OpenSpec.ofChange fnExactCastTypeOfSpec)) fnExactCastTypeOfCard

/-- THE SECOND FORM's CARD OF 'laws.FnExactSafeFor'. -/
def fnExactSafeForUptoCard : Claim7 := { stood := { row := fnExactSafeForUptoRow, standIns := [], harness := (true, "ae9ecfb42159e6db664857d8712bbe31e6560086f1313f6c5da23fa713976d28"), looks := false }, kinds := [], alts := [], laidByText := true, laidKinds := [.data], laidTests := true, laidLooks := .later }
def FnExactSafeForUptoCardSaid : Prop := Claim7.holds Tryd.pinned (.plain (OpenSpec.upto fnExactSafeForSpec)) fnExactSafeForUptoCard

/-- THE SECOND FORM's CARD OF 'laws.FnExactUnsafeLabels'. -/
def fnExactUnsafeLabelsUptoCard : Claim7 := { stood := { row := fnExactUnsafeLabelsUptoRow, standIns := [], harness := (true, "ae9ecfb42159e6db664857d8712bbe31e6560086f1313f6c5da23fa713976d28"), looks := false }, kinds := [], alts := [], laidByText := true, laidKinds := [.data], laidTests := true, laidLooks := .later }
def FnExactUnsafeLabelsUptoCardSaid : Prop := Claim7.holds Tryd.pinned (.plain (OpenSpec.upto fnExactUnsafeLabelsSpec)) fnExactUnsafeLabelsUptoCard

/-- THE SECOND FORM's CARD OF 'laws.FnExactSafeTerm'. -/
def fnExactSafeTermUptoCard : Claim7 := { stood := { row := fnExactSafeTermUptoRow, standIns := [], harness := (true, "ae9ecfb42159e6db664857d8712bbe31e6560086f1313f6c5da23fa713976d28"), looks := false }, kinds := [], alts := [], laidByText := true, laidKinds := [.data], laidTests := true, laidLooks := .later }
def FnExactSafeTermUptoCardSaid : Prop := Claim7.holds Tryd.pinned (.plain (OpenSpec.upto fnExactSafeTermSpec)) fnExactSafeTermUptoCard

/-- THE SECOND FORM's CARD OF 'laws.FnExactCastLabels'. -/
def fnExactCastLabelsUptoCard : Claim7 := { stood := { row := fnExactCastLabelsUptoRow, standIns := [], harness := (true, "ae9ecfb42159e6db664857d8712bbe31e6560086f1313f6c5da23fa713976d28"), looks := false }, kinds := [], alts := [], laidByText := true, laidKinds := [.data], laidTests := true, laidLooks := .later }
def FnExactCastLabelsUptoCardSaid : Prop := Claim7.holds Tryd.pinned (.plain (OpenSpec.upto fnExactCastLabelsSpec)) fnExactCastLabelsUptoCard

/-- THE SECOND FORM's CARD OF 'laws.FnExactParseTerm'. -/
def fnExactParseTermUptoCard : Claim7 := { stood := { row := fnExactParseTermUptoRow, standIns := [], harness := (true, "ae9ecfb42159e6db664857d8712bbe31e6560086f1313f6c5da23fa713976d28"), looks := false }, kinds := [], alts := [], laidByText := true, laidKinds := [.data], laidTests := true, laidLooks := .later }
def FnExactParseTermUptoCardSaid : Prop := Claim7.holds Tryd.pinned (.plain (OpenSpec.upto fnExactParseTermSpec)) fnExactParseTermUptoCard

/-- THE SECOND FORM's CARD OF 'laws.FnExactParseCast'. -/
def fnExactParseCastUptoCard : Claim7 := { stood := { row := fnExactParseCastUptoRow, standIns := [], harness := (true, "ae9ecfb42159e6db664857d8712bbe31e6560086f1313f6c5da23fa713976d28"), looks := false }, kinds := [], alts := [], laidByText := true, laidKinds := [.data], laidTests := true, laidLooks := .later }
def FnExactParseCastUptoCardSaid : Prop := Claim7.holds Tryd.pinned (.plain (OpenSpec.upto fnExactParseCastSpec)) fnExactParseCastUptoCard

/-- THE SECOND FORM's CARD OF 'laws.FnExactTypeIn'. -/
def fnExactTypeInUptoCard : Claim7 := { stood := { row := fnExactTypeInUptoRow, standIns := [], harness := (true, "ae9ecfb42159e6db664857d8712bbe31e6560086f1313f6c5da23fa713976d28"), looks := false }, kinds := [], alts := [], laidByText := true, laidKinds := [.data], laidTests := true, laidLooks := .later }
def FnExactTypeInUptoCardSaid : Prop := Claim7.holds Tryd.pinned (.plain (OpenSpec.upto fnExactTypeInSpec)) fnExactTypeInUptoCard

/-- THE SECOND FORM's CARD OF 'laws.FnExactTypeOf'. -/
def fnExactTypeOfUptoCard : Claim7 := { stood := { row := fnExactTypeOfUptoRow, standIns := [], harness := (true, "ae9ecfb42159e6db664857d8712bbe31e6560086f1313f6c5da23fa713976d28"), looks := false }, kinds := [], alts := [], laidByText := true, laidKinds := [.data], laidTests := true, laidLooks := .later }
def FnExactTypeOfUptoCardSaid : Prop := Claim7.holds Tryd.pinned (.plain (OpenSpec.upto fnExactTypeOfSpec)) fnExactTypeOfUptoCard

/-- THE SECOND FORM's CARD OF 'laws.FnExactCastTypeOf'. -/
def fnExactCastTypeOfUptoCard : Claim7 := { stood := { row := fnExactCastTypeOfUptoRow, standIns := [], harness := (true, "ae9ecfb42159e6db664857d8712bbe31e6560086f1313f6c5da23fa713976d28"), looks := false }, kinds := [], alts := [], laidByText := true, laidKinds := [.data], laidTests := true, laidLooks := .later }
def FnExactCastTypeOfUptoCardSaid : Prop := Claim7.holds Tryd.pinned (.plain (OpenSpec.upto fnExactCastTypeOfSpec)) fnExactCastTypeOfUptoCard
end Rows
end Go.Proofs.YtgiimijooabioaaDoor
