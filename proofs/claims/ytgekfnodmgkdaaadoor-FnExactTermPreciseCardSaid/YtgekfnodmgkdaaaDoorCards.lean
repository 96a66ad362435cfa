/-
  DERIVED. GIVEN WITH THE SEED: THE CARDS: each row of YtgekfnodmgkdaaaDoorRows.lean that lists a variable, with what it lists TIED to the program's text (the seventh form; the later family's looks); each row that meets fmt, with fmt's text TOLD by the authors' own Lean function (tested against real Go, not proved from fmt's source: count such statements apart). THE CARD IS WHAT COUNTS. Prove the row's statement (the work); the ties are given (YtgekfnodmgkdaaaDoorTie.lean); close each card by the builder's one call (the guide's Derived/Test/ToyasCard.lean, 'card_holds'). Laid BY PROGRAM, IN A SANDBOX (cutbox-door.mjs). By AI agents, Wed Nov 11 2026. No macro, syntax, notation, axiom, sorry.
-/
import Derived.Test.YtgekfnodmgkdaaaDoorRows
import GoSem.ClaimSeven
namespace Go.Proofs.YtgekfnodmgkdaaaDoor
namespace Rows

/-- THE TIED CARD OF 'laws.FnExactTermPrecise'. -/
def fnExactTermPreciseCard : Claim7 := { stood := { row := fnExactTermPreciseRow, standIns := [], harness := (true, "e2aa472b32d43564795f68edf2f19abb6f1807763d5a0a4dc8967e10eb550a05"), looks := false }, kinds := [], alts := [], laidByText := true, laidKinds := [.data], laidTests := true, laidLooks := .later }
def FnExactTermPreciseCardSaid : Prop := Claim7.holds Tryd.pinned (.plain (OpenSpec.ofChange fnExactTermPreciseSpec)) fnExactTermPreciseCard

/-- THE TIED CARD OF 'laws.FnExactFormatCoercion'. -/
def fnExactFormatCoercionCard : Claim7 := { stood := { row := fnExactFormatCoercionRow, standIns := [], harness := (true, "e2aa472b32d43564795f68edf2f19abb6f1807763d5a0a4dc8967e10eb550a05"), looks := false }, kinds := [], alts := [], laidByText := true, laidKinds := [.data, .data, .data], laidTests := true, laidLooks := .later }
def FnExactFormatCoercionCardSaid : Prop := Claim7.holds Tryd.pinned (.plain (OpenSpec.ofChange fnExactFormatCoercionSpec)) fnExactFormatCoercionCard

/-- THE TIED CARD OF 'laws.FnExactTermHeight'. -/
def fnExactTermHeightCard : Claim7 := { stood := { row := fnExactTermHeightRow, standIns := [], harness := (true, "e2aa472b32d43564795f68edf2f19abb6f1807763d5a0a4dc8967e10eb550a05"), looks := false }, kinds := [], alts := [], laidByText := true, laidKinds := [.data], laidTests := true, laidLooks := .later }
def FnExactTermHeightCardSaid : Prop := Claim7.holds Tryd.pinned (.plain (OpenSpec.ofChange fnExactTermHeightSpec)) fnExactTermHeightCard

/-- THE TIED CARD OF 'laws.FnExactTypeIn'. -/
def fnExactTypeInCard : Claim7 := { stood := { row := fnExactTypeInRow, standIns := [], harness := (true, "e2aa472b32d43564795f68edf2f19abb6f1807763d5a0a4dc8967e10eb550a05"), looks := false }, kinds := [], alts := [], laidByText := true, laidKinds := [.data], laidTests := true, laidLooks := .later }
def FnExactTypeInCardSaid : Prop := Claim7.holds Tryd.pinned (.plain (OpenSpec.ofChange fnExactTypeInSpec)) fnExactTypeInCard

/-- THE TIED CARD OF 'laws.FnExactTypeOf'. -/
def fnExactTypeOfCard : Claim7 := { stood := { row := fnExactTypeOfRow, standIns := [], harness := (true, "e2aa472b32d43564795f68edf2f19abb6f1807763d5a0a4dc8967e10eb550a05"), looks := false }, kinds := [], alts := [], laidByText := true, laidKinds := [.data], laidTests := true, laidLooks := .later }
def FnExactTypeOfCardSaid : Prop := Claim7.holds Tryd.pinned (.plain (OpenSpec.ofChange fnExactTypeOfSpec)) fnExactTypeOfCard

/-- THE TIED CARD OF 'laws.FnExactCastTypeOf'. -/
def fnExactCastTypeOfCard : Claim7 := { stood := { row := fnExactCastTypeOfRow, standIns := [], harness := (true, "e2aa472b32d43564795f68edf2f19abb6f1807763d5a0a4dc8967e10eb550a05"), looks := false }, kinds := [], alts := [], laidByText := true, laidKinds := [.data], laidTests := true, laidLooks := .later }
def FnExactCastTypeOfCardSaid : Prop := Claim7.holds Tryd.pinned (.plain (OpenSpec.ofChange fnExactCastTypeOfSpec)) fnExactCastTypeOfCard

/-- THE TIED CARD OF 'laws.FnExactIsValue'. -/
def fnExactIsValueCard : Claim7 := { stood := { row := fnExactIsValueRow, standIns := [], harness := (true, "e2aa472b32d43564795f68edf2f19abb6f1807763d5a0a4dc8967e10eb550a05"), looks := false }, kinds := [], alts := [], laidByText := true, laidKinds := [.data], laidTests := true, laidLooks := .later }
def FnExactIsValueCardSaid : Prop := Claim7.holds Tryd.pinned (.plain (OpenSpec.ofChange fnExactIsValueSpec)) fnExactIsValueCard

/-- THE TIED CARD OF 'laws.FnExactValueText'. -/
def fnExactValueTextCard : Claim7 := { stood := { row := fnExactValueTextRow, standIns := [], harness := (true, "e2aa472b32d43564795f68edf2f19abb6f1807763d5a0a4dc8967e10eb550a05"), looks := false }, kinds := [], alts := [], laidByText := true, laidKinds := [.data, .data, .data, .data], laidTests := true, laidLooks := .later }
def FnExactValueTextCardSaid : Prop := Claim7.holds Tryd.pinned (.plain (OpenSpec.ofChange fnExactValueTextSpec)) fnExactValueTextCard

/-- THE TIED CARD OF 'laws.FnExactParseTerm'. -/
def fnExactParseTermCard : Claim7 := { stood := { row := fnExactParseTermRow, standIns := [], harness := (true, "e2aa472b32d43564795f68edf2f19abb6f1807763d5a0a4dc8967e10eb550a05"), looks := false }, kinds := [], alts := [], laidByText := true, laidKinds := [.data], laidTests := true, laidLooks := .later }
def FnExactParseTermCardSaid : Prop := Claim7.holds Tryd.pinned (.plain (OpenSpec.ofChange fnExactParseTermSpec)) fnExactParseTermCard

/-- THE SECOND FORM's CARD OF 'laws.FnExactTermPrecise'. -/
def fnExactTermPreciseUptoCard : Claim7 := { stood := { row := fnExactTermPreciseUptoRow, standIns := [], harness := (true, "e2aa472b32d43564795f68edf2f19abb6f1807763d5a0a4dc8967e10eb550a05"), looks := false }, kinds := [], alts := [], laidByText := true, laidKinds := [.data], laidTests := true, laidLooks := .later }
def FnExactTermPreciseUptoCardSaid : Prop := Claim7.holds Tryd.pinned (.plain (OpenSpec.upto fnExactTermPreciseSpec)) fnExactTermPreciseUptoCard

/-- THE SECOND FORM's CARD OF 'laws.FnExactFormatCoercion'. -/
def fnExactFormatCoercionUptoCard : Claim7 := { stood := { row := fnExactFormatCoercionUptoRow, standIns := [], harness := (true, "e2aa472b32d43564795f68edf2f19abb6f1807763d5a0a4dc8967e10eb550a05"), looks := false }, kinds := [], alts := [], laidByText := true, laidKinds := [.data, .data, .data], laidTests := true, laidLooks := .later }
def FnExactFormatCoercionUptoCardSaid : Prop := Claim7.holds Tryd.pinned (.plain (OpenSpec.upto fnExactFormatCoercionSpec)) fnExactFormatCoercionUptoCard

/-- THE SECOND FORM's CARD OF 'laws.FnExactTermHeight'. -/
def fnExactTermHeightUptoCard : Claim7 := { stood := { row := fnExactTermHeightUptoRow, standIns := [], harness := (true, "e2aa472b32d43564795f68edf2f19abb6f1807763d5a0a4dc8967e10eb550a05"), looks := false }, kinds := [], alts := [], laidByText := true, laidKinds := [.data], laidTests := true, laidLooks := .later }
def FnExactTermHeightUptoCardSaid : Prop := Claim7.holds Tryd.pinned (.plain (OpenSpec.upto fnExactTermHeightSpec)) fnExactTermHeightUptoCard

/-- THE SECOND FORM's CARD OF 'laws.FnExactTypeIn'. -/
def fnExactTypeInUptoCard : Claim7 := { stood := { row := fnExactTypeInUptoRow, standIns := [], harness := (true, "e2aa472b32d43564795f68edf2f19abb6f1807763d5a0a4dc8967e10eb550a05"), looks := false }, kinds := [], alts := [], laidByText := true, laidKinds := [.data], laidTests := true, laidLooks := .later }
def FnExactTypeInUptoCardSaid : Prop := Claim7.holds Tryd.pinned (.plain (OpenSpec.upto fnExactTypeInSpec)) fnExactTypeInUptoCard

/-- THE SECOND FORM's CARD OF 'laws.FnExactTypeOf'. -/
def fnExactTypeOfUptoCard : Claim7 := { stood := { row := fnExactTypeOfUptoRow, standIns := [], harness := (true, "e2aa472b32d43564795f68edf2f19abb6f1807763d5a0a4dc8967e10eb550a05"), looks := false }, kinds := [], alts := [], laidByText := true, laidKinds := [.data], laidTests := true, laidLooks := .later }
def FnExactTypeOfUptoCardSaid : Prop := Claim7.holds Tryd.pinned (.plain (OpenSpec.upto fnExactTypeOfSpec)) fnExactTypeOfUptoCard

/-- THE SECOND FORM's CARD OF 'laws.FnExactCastTypeOf'. -/
def fnExactCastTypeOfUptoCard : Claim7 := { stood := { row := fnExactCastTypeOfUptoRow, standIns := [], harness := (true, "e2aa472b32d43564795f68edf2f19abb6f1807763d5a0a4dc8967e10eb550a05"), looks := false }, kinds := [], alts := [], laidByText := true, laidKinds := [.data], laidTests := true, laidLooks := .later }
def FnExactCastTypeOfUptoCardSaid : Prop := Claim7.holds Tryd.pinned (.plain (OpenSpec.upto fnExactCastTypeOfSpec)) fnExactCastTypeOfUptoCard

/-- THE SECOND FORM's CARD OF 'laws.FnExactIsValue'. -/
def fnExactIsValueUptoCard : Claim7 := { stood := { row := fnExactIsValueUptoRow, standIns := [], harness := (true, "e2aa472b32d43564795f68edf2f19abb6f1807763d5a0a4dc8967e10eb550a05"), looks := false }, kinds := [], alts := [], laidByText := true, laidKinds := [.data], laidTests := true, laidLooks := .later }
def FnExactIsValueUptoCardSaid : Prop := Claim7.holds Tryd.pinned (.plain (OpenSpec.upto fnExactIsValueSpec)) fnExactIsValueUptoCard

/-- THE SECOND FORM's CARD OF 'laws.FnExactValueText'. -/
def fnExactValueTextUptoCard : Claim7 := { stood := { row := fnExactValueTextUptoRow, standIns := [], harness := (true, "e2aa472b32d43564795f68edf2f19abb6f1807763d5a0a4dc8967e10eb550a05"), looks := false }, kinds := [], alts := [], laidByText := true, laidKinds := [.data, .data, .data, .data], laidTests := true, laidLooks := .later }
def FnExactValueTextUptoCardSaid : Prop := Claim7.holds Tryd.pinned (.plain (OpenSpec.upto fnExactValueTextSpec)) fnExactValueTextUptoCard

/-- THE SECOND FORM's CARD OF 'laws.FnExactParseTerm'. -/
def fnExactParseTermUptoCard : Claim7 := { stood := { row := fnExactParseTermUptoRow, standIns := [], harness := (true, "e2aa472b32d43564795f68edf2f19abb6f1807763d5a0a4dc8967e10eb550a05"), looks := false }, kinds := [], alts := [], laidByText := true, laidKinds := [.data], laidTests := true, laidLooks := .later }
def FnExactParseTermUptoCardSaid : Prop := Claim7.holds Tryd.pinned (.plain (OpenSpec.upto fnExactParseTermSpec)) fnExactParseTermUptoCard
end Rows
end Go.Proofs.YtgekfnodmgkdaaaDoor
