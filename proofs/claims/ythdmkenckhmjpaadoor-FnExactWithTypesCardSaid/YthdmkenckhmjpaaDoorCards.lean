/-
  DERIVED. GIVEN WITH THE SEED: THE CARDS: each row of YthdmkenckhmjpaaDoorRows.lean that lists a variable, with what it lists TIED to the program's text (the seventh form; the later family's looks); each row that meets fmt, with fmt's text TOLD by the authors' own Lean function (tested against real Go, not proved from fmt's source: count such statements apart). THE CARD IS WHAT COUNTS. Prove the row's statement (the work); the ties are given (YthdmkenckhmjpaaDoorTie.lean); close each card by the builder's one call (the guide's Derived/Test/ToyasCard.lean, 'card_holds'). Laid BY PROGRAM, IN A SANDBOX (cutbox-door.mjs). By AI agents, Wed Nov 11 2026. No macro, syntax, notation, axiom, sorry.
-/
import Derived.Test.YthdmkenckhmjpaaDoorRows
import GoSem.ClaimSeven
namespace Go.Proofs.YthdmkenckhmjpaaDoor
namespace Rows

/-- THE TIED CARD OF 'laws.FnExactEraseTerm'. -/
def fnExactEraseTermCard : Claim7 := { stood := { row := fnExactEraseTermRow, standIns := [], harness := (true, "dd76b1f84caa194184abdf63409904d788440bad26d009043733d9080693babf"), looks := false }, kinds := [], alts := [], laidByText := true, laidKinds := [.data], laidTests := true, laidLooks := .later }
def FnExactEraseTermCardSaid : Prop := Claim7.holds Tryd.pinned (.plain (OpenSpec.ofChange fnExactEraseTermSpec)) fnExactEraseTermCard

/-- THE TIED CARD OF 'laws.FnExactWithTypes'. -/
def fnExactWithTypesCard : Claim7 := { stood := { row := fnExactWithTypesRow, standIns := [], harness := (true, "dd76b1f84caa194184abdf63409904d788440bad26d009043733d9080693babf"), looks := false }, kinds := [], alts := [], laidByText := true, laidKinds := [.data], laidTests := true, laidLooks := .later }
def FnExactWithTypesCardSaid : Prop := Claim7.holds Tryd.pinned (.plain (OpenSpec.ofChange fnExactWithTypesSpec)) fnExactWithTypesCard

/-- THE TIED CARD OF 'laws.FnExactStaticTerm'. -/
def fnExactStaticTermCard : Claim7 := { stood := { row := fnExactStaticTermRow, standIns := [], harness := (true, "dd76b1f84caa194184abdf63409904d788440bad26d009043733d9080693babf"), looks := false }, kinds := [], alts := [], laidByText := true, laidKinds := [.data], laidTests := true, laidLooks := .later }
def FnExactStaticTermCardSaid : Prop := Claim7.holds Tryd.pinned (.plain (OpenSpec.ofChange fnExactStaticTermSpec)) fnExactStaticTermCard

/-- THE SECOND FORM's CARD OF 'laws.FnExactEraseTerm'. -/
def fnExactEraseTermUptoCard : Claim7 := { stood := { row := fnExactEraseTermUptoRow, standIns := [], harness := (true, "dd76b1f84caa194184abdf63409904d788440bad26d009043733d9080693babf"), looks := false }, kinds := [], alts := [], laidByText := true, laidKinds := [.data], laidTests := true, laidLooks := .later }
def FnExactEraseTermUptoCardSaid : Prop := Claim7.holds Tryd.pinned (.plain (OpenSpec.upto fnExactEraseTermSpec)) fnExactEraseTermUptoCard

/-- THE SECOND FORM's CARD OF 'laws.FnExactWithTypes'. -/
def fnExactWithTypesUptoCard : Claim7 := { stood := { row := fnExactWithTypesUptoRow, standIns := [], harness := (true, "dd76b1f84caa194184abdf63409904d788440bad26d009043733d9080693babf"), looks := false }, kinds := [], alts := [], laidByText := true, laidKinds := [.data], laidTests := true, laidLooks := .later }
def FnExactWithTypesUptoCardSaid : Prop := Claim7.holds Tryd.pinned (.plain (OpenSpec.upto fnExactWithTypesSpec)) fnExactWithTypesUptoCard

/-- THE SECOND FORM's CARD OF 'laws.FnExactStaticTerm'. -/
def fnExactStaticTermUptoCard : Claim7 := { stood := { row := fnExactStaticTermUptoRow, standIns := [], harness := (true, "dd76b1f84caa194184abdf63409904d788440bad26d009043733d9080693babf"), looks := false }, kinds := [], alts := [], laidByText := true, laidKinds := [.data], laidTests := true, laidLooks := .later }
def FnExactStaticTermUptoCardSaid : Prop := Claim7.holds Tryd.pinned (.plain (OpenSpec.upto fnExactStaticTermSpec)) fnExactStaticTermUptoCard
end Rows
end Go.Proofs.YthdmkenckhmjpaaDoor
