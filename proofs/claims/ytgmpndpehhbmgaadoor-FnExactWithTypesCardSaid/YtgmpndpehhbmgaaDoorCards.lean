/-
  DERIVED. GIVEN WITH THE SEED: THE CARDS: each row of YtgmpndpehhbmgaaDoorRows.lean that lists a variable, with what it lists TIED to the program's text (the seventh form; the later family's looks); each row that meets fmt, with fmt's text TOLD by the authors' own Lean function (tested against real Go, not proved from fmt's source: count such statements apart). THE CARD IS WHAT COUNTS. Prove the row's statement (the work); the ties are given (YtgmpndpehhbmgaaDoorTie.lean); close each card by the builder's one call (the guide's Derived/Test/ToyasCard.lean, 'card_holds'). Laid BY PROGRAM, IN A SANDBOX (cutbox-door.mjs). By AI agents, Wed Nov 11 2026. No macro, syntax, notation, axiom, sorry.
-/
import Derived.Test.YtgmpndpehhbmgaaDoorRows
import GoSem.ClaimSeven
namespace Go.Proofs.YtgmpndpehhbmgaaDoor
namespace Rows

/-- THE TIED CARD OF 'laws.FnExactTypeIn'. -/
def fnExactTypeInCard : Claim7 := { stood := { row := fnExactTypeInRow, standIns := [], harness := (true, "422143ceefc6c5cf1b54de69f0178095310fa6782dc77e132c31b147c02a7882"), looks := false }, kinds := [], alts := [], laidByText := true, laidKinds := [.data], laidTests := true, laidLooks := .later }
def FnExactTypeInCardSaid : Prop := Claim7.holds Tryd.pinned (.plain (OpenSpec.ofChange fnExactTypeInSpec)) fnExactTypeInCard

/-- THE TIED CARD OF 'laws.FnExactTypeOf'. -/
def fnExactTypeOfCard : Claim7 := { stood := { row := fnExactTypeOfRow, standIns := [], harness := (true, "422143ceefc6c5cf1b54de69f0178095310fa6782dc77e132c31b147c02a7882"), looks := false }, kinds := [], alts := [], laidByText := true, laidKinds := [.data], laidTests := true, laidLooks := .later }
def FnExactTypeOfCardSaid : Prop := Claim7.holds Tryd.pinned (.plain (OpenSpec.ofChange fnExactTypeOfSpec)) fnExactTypeOfCard

/-- THE TIED CARD OF 'laws.FnExactTermPrecise'. -/
def fnExactTermPreciseCard : Claim7 := { stood := { row := fnExactTermPreciseRow, standIns := [], harness := (true, "422143ceefc6c5cf1b54de69f0178095310fa6782dc77e132c31b147c02a7882"), looks := false }, kinds := [], alts := [], laidByText := true, laidKinds := [.data], laidTests := true, laidLooks := .later }
def FnExactTermPreciseCardSaid : Prop := Claim7.holds Tryd.pinned (.plain (OpenSpec.ofChange fnExactTermPreciseSpec)) fnExactTermPreciseCard

/-- THE TIED CARD OF 'laws.FnExactStaticTerm'. -/
def fnExactStaticTermCard : Claim7 := { stood := { row := fnExactStaticTermRow, standIns := [], harness := (true, "422143ceefc6c5cf1b54de69f0178095310fa6782dc77e132c31b147c02a7882"), looks := false }, kinds := [], alts := [], laidByText := true, laidKinds := [.data], laidTests := true, laidLooks := .later }
def FnExactStaticTermCardSaid : Prop := Claim7.holds Tryd.pinned (.plain (OpenSpec.ofChange fnExactStaticTermSpec)) fnExactStaticTermCard

/-- THE TIED CARD OF 'laws.FnExactEraseTerm'. -/
def fnExactEraseTermCard : Claim7 := { stood := { row := fnExactEraseTermRow, standIns := [], harness := (true, "422143ceefc6c5cf1b54de69f0178095310fa6782dc77e132c31b147c02a7882"), looks := false }, kinds := [], alts := [], laidByText := true, laidKinds := [.data], laidTests := true, laidLooks := .later }
def FnExactEraseTermCardSaid : Prop := Claim7.holds Tryd.pinned (.plain (OpenSpec.ofChange fnExactEraseTermSpec)) fnExactEraseTermCard

/-- THE TIED CARD OF 'laws.FnExactWithTypes'. -/
def fnExactWithTypesCard : Claim7 := { stood := { row := fnExactWithTypesRow, standIns := [], harness := (true, "422143ceefc6c5cf1b54de69f0178095310fa6782dc77e132c31b147c02a7882"), looks := false }, kinds := [], alts := [], laidByText := true, laidKinds := [.data], laidTests := true, laidLooks := .later }
def FnExactWithTypesCardSaid : Prop := Claim7.holds Tryd.pinned (.plain (OpenSpec.ofChange fnExactWithTypesSpec)) fnExactWithTypesCard

/-- THE TIED CARD OF 'laws.FnExactSubstTerm'. -/
def fnExactSubstTermCard : Claim7 := { stood := { row := fnExactSubstTermRow, standIns := [], harness := (true, "422143ceefc6c5cf1b54de69f0178095310fa6782dc77e132c31b147c02a7882"), looks := false }, kinds := [], alts := [], laidByText := true, laidKinds := [.data], laidTests := true, laidLooks := .later }
def FnExactSubstTermCardSaid : Prop := Claim7.holds Tryd.pinned (.plain (OpenSpec.ofChange fnExactSubstTermSpec)) fnExactSubstTermCard

/-- THE TIED CARD OF 'laws.FnExactFreeNames'. -/
def fnExactFreeNamesCard : Claim7 := { stood := { row := fnExactFreeNamesRow, standIns := [], harness := (true, "422143ceefc6c5cf1b54de69f0178095310fa6782dc77e132c31b147c02a7882"), looks := false }, kinds := [], alts := [], laidByText := true, laidKinds := [.data], laidTests := true, laidLooks := .later }
def FnExactFreeNamesCardSaid : Prop := Claim7.holds Tryd.pinned (.plain (OpenSpec.ofChange fnExactFreeNamesSpec)) fnExactFreeNamesCard

/-- THE SECOND FORM's CARD OF 'laws.FnExactTypeIn'. -/
def fnExactTypeInUptoCard : Claim7 := { stood := { row := fnExactTypeInUptoRow, standIns := [], harness := (true, "422143ceefc6c5cf1b54de69f0178095310fa6782dc77e132c31b147c02a7882"), looks := false }, kinds := [], alts := [], laidByText := true, laidKinds := [.data], laidTests := true, laidLooks := .later }
def FnExactTypeInUptoCardSaid : Prop := Claim7.holds Tryd.pinned (.plain (OpenSpec.upto fnExactTypeInSpec)) fnExactTypeInUptoCard

/-- THE SECOND FORM's CARD OF 'laws.FnExactTypeOf'. -/
def fnExactTypeOfUptoCard : Claim7 := { stood := { row := fnExactTypeOfUptoRow, standIns := [], harness := (true, "422143ceefc6c5cf1b54de69f0178095310fa6782dc77e132c31b147c02a7882"), looks := false }, kinds := [], alts := [], laidByText := true, laidKinds := [.data], laidTests := true, laidLooks := .later }
def FnExactTypeOfUptoCardSaid : Prop := Claim7.holds Tryd.pinned (.plain (OpenSpec.upto fnExactTypeOfSpec)) fnExactTypeOfUptoCard

/-- THE SECOND FORM's CARD OF 'laws.FnExactTermPrecise'. -/
def fnExactTermPreciseUptoCard : Claim7 := { stood := { row := fnExactTermPreciseUptoRow, standIns := [], harness := (true, "422143ceefc6c5cf1b54de69f0178095310fa6782dc77e132c31b147c02a7882"), looks := false }, kinds := [], alts := [], laidByText := true, laidKinds := [.data], laidTests := true, laidLooks := .later }
def FnExactTermPreciseUptoCardSaid : Prop := Claim7.holds Tryd.pinned (.plain (OpenSpec.upto fnExactTermPreciseSpec)) fnExactTermPreciseUptoCard

/-- THE SECOND FORM's CARD OF 'laws.FnExactStaticTerm'. -/
def fnExactStaticTermUptoCard : Claim7 := { stood := { row := fnExactStaticTermUptoRow, standIns := [], harness := (true, "422143ceefc6c5cf1b54de69f0178095310fa6782dc77e132c31b147c02a7882"), looks := false }, kinds := [], alts := [], laidByText := true, laidKinds := [.data], laidTests := true, laidLooks := .later }
def FnExactStaticTermUptoCardSaid : Prop := Claim7.holds Tryd.pinned (.plain (OpenSpec.upto fnExactStaticTermSpec)) fnExactStaticTermUptoCard

/-- THE SECOND FORM's CARD OF 'laws.FnExactEraseTerm'. -/
def fnExactEraseTermUptoCard : Claim7 := { stood := { row := fnExactEraseTermUptoRow, standIns := [], harness := (true, "422143ceefc6c5cf1b54de69f0178095310fa6782dc77e132c31b147c02a7882"), looks := false }, kinds := [], alts := [], laidByText := true, laidKinds := [.data], laidTests := true, laidLooks := .later }
def FnExactEraseTermUptoCardSaid : Prop := Claim7.holds Tryd.pinned (.plain (OpenSpec.upto fnExactEraseTermSpec)) fnExactEraseTermUptoCard

/-- THE SECOND FORM's CARD OF 'laws.FnExactWithTypes'. -/
def fnExactWithTypesUptoCard : Claim7 := { stood := { row := fnExactWithTypesUptoRow, standIns := [], harness := (true, "422143ceefc6c5cf1b54de69f0178095310fa6782dc77e132c31b147c02a7882"), looks := false }, kinds := [], alts := [], laidByText := true, laidKinds := [.data], laidTests := true, laidLooks := .later }
def FnExactWithTypesUptoCardSaid : Prop := Claim7.holds Tryd.pinned (.plain (OpenSpec.upto fnExactWithTypesSpec)) fnExactWithTypesUptoCard

/-- THE SECOND FORM's CARD OF 'laws.FnExactSubstTerm'. -/
def fnExactSubstTermUptoCard : Claim7 := { stood := { row := fnExactSubstTermUptoRow, standIns := [], harness := (true, "422143ceefc6c5cf1b54de69f0178095310fa6782dc77e132c31b147c02a7882"), looks := false }, kinds := [], alts := [], laidByText := true, laidKinds := [.data], laidTests := true, laidLooks := .later }
def FnExactSubstTermUptoCardSaid : Prop := Claim7.holds Tryd.pinned (.plain (OpenSpec.upto fnExactSubstTermSpec)) fnExactSubstTermUptoCard

/-- THE SECOND FORM's CARD OF 'laws.FnExactFreeNames'. -/
def fnExactFreeNamesUptoCard : Claim7 := { stood := { row := fnExactFreeNamesUptoRow, standIns := [], harness := (true, "422143ceefc6c5cf1b54de69f0178095310fa6782dc77e132c31b147c02a7882"), looks := false }, kinds := [], alts := [], laidByText := true, laidKinds := [.data], laidTests := true, laidLooks := .later }
def FnExactFreeNamesUptoCardSaid : Prop := Claim7.holds Tryd.pinned (.plain (OpenSpec.upto fnExactFreeNamesSpec)) fnExactFreeNamesUptoCard
end Rows
end Go.Proofs.YtgmpndpehhbmgaaDoor
