/-
  DERIVED. GIVEN WITH THE SEED: THE CARDS: each row of YtffmpjcjmffdeaaDoorRows.lean that lists a variable, with what it lists TIED to the program's text (the seventh form; the later family's looks); each row that meets fmt, with fmt's text TOLD by the authors' own Lean function (tested against real Go, not proved from fmt's source: count such statements apart). THE CARD IS WHAT COUNTS. Prove the row's statement (the work); the ties are given (YtffmpjcjmffdeaaDoorTie.lean); close each card by the builder's one call (the guide's Derived/Test/ToyasCard.lean, 'card_holds'). Laid BY PROGRAM, IN A SANDBOX (cutbox-door.mjs). By AI agents, Wed Nov 11 2026. No macro, syntax, notation, axiom, sorry.
-/
import Derived.Test.YtffmpjcjmffdeaaDoorRows
import GoSem.ClaimSeven
namespace Go.Proofs.YtffmpjcjmffdeaaDoor
namespace Rows

/-- THE TIED CARD OF 'laws.FnExactCountCasts'. -/
def fnExactCountCastsCard : Claim7 := { stood := { row := fnExactCountCastsRow, standIns := [], harness := (true, "efa05d0d1379ef3a69db1143cbd7040affbe6d52263348ada8966dac850ee1f6"), looks := false }, kinds := [], alts := [], laidByText := true, laidKinds := [.data], laidTests := true, laidLooks := .later }
def FnExactCountCastsCardSaid : Prop := Claim7.holds Tryd.pinned (.plain (OpenSpec.ofChange fnExactCountCastsSpec)) fnExactCountCastsCard

/-- THE TIED CARD OF 'laws.FnExactTypeIn'. -/
def fnExactTypeInCard : Claim7 := { stood := { row := fnExactTypeInRow, standIns := [], harness := (true, "efa05d0d1379ef3a69db1143cbd7040affbe6d52263348ada8966dac850ee1f6"), looks := false }, kinds := [], alts := [], laidByText := true, laidKinds := [.data], laidTests := true, laidLooks := .later }
def FnExactTypeInCardSaid : Prop := Claim7.holds Tryd.pinned (.plain (OpenSpec.ofChange fnExactTypeInSpec)) fnExactTypeInCard

/-- THE TIED CARD OF 'laws.FnExactTypeOf'. -/
def fnExactTypeOfCard : Claim7 := { stood := { row := fnExactTypeOfRow, standIns := [], harness := (true, "efa05d0d1379ef3a69db1143cbd7040affbe6d52263348ada8966dac850ee1f6"), looks := false }, kinds := [], alts := [], laidByText := true, laidKinds := [.data], laidTests := true, laidLooks := .later }
def FnExactTypeOfCardSaid : Prop := Claim7.holds Tryd.pinned (.plain (OpenSpec.ofChange fnExactTypeOfSpec)) fnExactTypeOfCard

/-- THE TIED CARD OF 'laws.FnExactCastTypeOf'. -/
def fnExactCastTypeOfCard : Claim7 := { stood := { row := fnExactCastTypeOfRow, standIns := [], harness := (true, "efa05d0d1379ef3a69db1143cbd7040affbe6d52263348ada8966dac850ee1f6"), looks := false }, kinds := [], alts := [], laidByText := true, laidKinds := [.data], laidTests := true, laidLooks := .later }
def FnExactCastTypeOfCardSaid : Prop := Claim7.holds Tryd.pinned (.plain (OpenSpec.ofChange fnExactCastTypeOfSpec)) fnExactCastTypeOfCard

/-- THE TIED CARD OF 'laws.FnExactMergeTerms'. -/
def fnExactMergeTermsCard : Claim7 := { stood := { row := fnExactMergeTermsRow, standIns := [], harness := (true, "efa05d0d1379ef3a69db1143cbd7040affbe6d52263348ada8966dac850ee1f6"), looks := false }, kinds := [], alts := [], laidByText := true, laidKinds := [.data], laidTests := true, laidLooks := .later }
def FnExactMergeTermsCardSaid : Prop := Claim7.holds Tryd.pinned (.plain (OpenSpec.ofChange fnExactMergeTermsSpec)) fnExactMergeTermsCard

/-- THE TIED CARD OF 'laws.FnEraseTerm'. -/
def fnEraseTermCard : Claim7 := { stood := { row := fnEraseTermRow, standIns := [], harness := (true, "efa05d0d1379ef3a69db1143cbd7040affbe6d52263348ada8966dac850ee1f6"), looks := false }, kinds := [], alts := [], laidByText := true, laidKinds := [.data], laidTests := true, laidLooks := .later }
def FnEraseTermCardSaid : Prop := Claim7.holds Tryd.pinned (.plain (OpenSpec.ofChange fnEraseTermSpec)) fnEraseTermCard

/-- THE TIED CARD OF 'laws.FnFreeNames'. -/
def fnFreeNamesCard : Claim7 := { stood := { row := fnFreeNamesRow, standIns := [], harness := (true, "efa05d0d1379ef3a69db1143cbd7040affbe6d52263348ada8966dac850ee1f6"), looks := false }, kinds := [], alts := [], laidByText := true, laidKinds := [.data], laidTests := true, laidLooks := .later }
def FnFreeNamesCardSaid : Prop := Claim7.holds Tryd.pinned (.plain (OpenSpec.ofChange fnFreeNamesSpec)) fnFreeNamesCard

/-- THE SECOND FORM's CARD OF 'laws.FnExactCountCasts'. -/
def fnExactCountCastsUptoCard : Claim7 := { stood := { row := fnExactCountCastsUptoRow, standIns := [], harness := (true, "efa05d0d1379ef3a69db1143cbd7040affbe6d52263348ada8966dac850ee1f6"), looks := false }, kinds := [], alts := [], laidByText := true, laidKinds := [.data], laidTests := true, laidLooks := .later }
def FnExactCountCastsUptoCardSaid : Prop := Claim7.holds Tryd.pinned (.plain (OpenSpec.upto fnExactCountCastsSpec)) fnExactCountCastsUptoCard

/-- THE SECOND FORM's CARD OF 'laws.FnExactTypeIn'. -/
def fnExactTypeInUptoCard : Claim7 := { stood := { row := fnExactTypeInUptoRow, standIns := [], harness := (true, "efa05d0d1379ef3a69db1143cbd7040affbe6d52263348ada8966dac850ee1f6"), looks := false }, kinds := [], alts := [], laidByText := true, laidKinds := [.data], laidTests := true, laidLooks := .later }
def FnExactTypeInUptoCardSaid : Prop := Claim7.holds Tryd.pinned (.plain (OpenSpec.upto fnExactTypeInSpec)) fnExactTypeInUptoCard

/-- THE SECOND FORM's CARD OF 'laws.FnExactTypeOf'. -/
def fnExactTypeOfUptoCard : Claim7 := { stood := { row := fnExactTypeOfUptoRow, standIns := [], harness := (true, "efa05d0d1379ef3a69db1143cbd7040affbe6d52263348ada8966dac850ee1f6"), looks := false }, kinds := [], alts := [], laidByText := true, laidKinds := [.data], laidTests := true, laidLooks := .later }
def FnExactTypeOfUptoCardSaid : Prop := Claim7.holds Tryd.pinned (.plain (OpenSpec.upto fnExactTypeOfSpec)) fnExactTypeOfUptoCard

/-- THE SECOND FORM's CARD OF 'laws.FnExactCastTypeOf'. -/
def fnExactCastTypeOfUptoCard : Claim7 := { stood := { row := fnExactCastTypeOfUptoRow, standIns := [], harness := (true, "efa05d0d1379ef3a69db1143cbd7040affbe6d52263348ada8966dac850ee1f6"), looks := false }, kinds := [], alts := [], laidByText := true, laidKinds := [.data], laidTests := true, laidLooks := .later }
def FnExactCastTypeOfUptoCardSaid : Prop := Claim7.holds Tryd.pinned (.plain (OpenSpec.upto fnExactCastTypeOfSpec)) fnExactCastTypeOfUptoCard

/-- THE SECOND FORM's CARD OF 'laws.FnExactMergeTerms'. -/
def fnExactMergeTermsUptoCard : Claim7 := { stood := { row := fnExactMergeTermsUptoRow, standIns := [], harness := (true, "efa05d0d1379ef3a69db1143cbd7040affbe6d52263348ada8966dac850ee1f6"), looks := false }, kinds := [], alts := [], laidByText := true, laidKinds := [.data], laidTests := true, laidLooks := .later }
def FnExactMergeTermsUptoCardSaid : Prop := Claim7.holds Tryd.pinned (.plain (OpenSpec.upto fnExactMergeTermsSpec)) fnExactMergeTermsUptoCard

/-- THE SECOND FORM's CARD OF 'laws.FnEraseTerm'. -/
def fnEraseTermUptoCard : Claim7 := { stood := { row := fnEraseTermUptoRow, standIns := [], harness := (true, "efa05d0d1379ef3a69db1143cbd7040affbe6d52263348ada8966dac850ee1f6"), looks := false }, kinds := [], alts := [], laidByText := true, laidKinds := [.data], laidTests := true, laidLooks := .later }
def FnEraseTermUptoCardSaid : Prop := Claim7.holds Tryd.pinned (.plain (OpenSpec.upto fnEraseTermSpec)) fnEraseTermUptoCard

/-- THE SECOND FORM's CARD OF 'laws.FnFreeNames'. -/
def fnFreeNamesUptoCard : Claim7 := { stood := { row := fnFreeNamesUptoRow, standIns := [], harness := (true, "efa05d0d1379ef3a69db1143cbd7040affbe6d52263348ada8966dac850ee1f6"), looks := false }, kinds := [], alts := [], laidByText := true, laidKinds := [.data], laidTests := true, laidLooks := .later }
def FnFreeNamesUptoCardSaid : Prop := Claim7.holds Tryd.pinned (.plain (OpenSpec.upto fnFreeNamesSpec)) fnFreeNamesUptoCard
end Rows
end Go.Proofs.YtffmpjcjmffdeaaDoor
