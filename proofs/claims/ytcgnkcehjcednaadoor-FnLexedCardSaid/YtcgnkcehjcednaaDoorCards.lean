/-
  DERIVED. GIVEN WITH THE SEED: THE CARDS: each row of YtcgnkcehjcednaaDoorRows.lean that lists a variable, with what it lists TIED to the program's text (the seventh form; the later family's looks); each row that meets fmt, with fmt's text TOLD by the authors' own Lean function (tested against real Go, not proved from fmt's source: count such statements apart). THE CARD IS WHAT COUNTS. Prove the row's statement (the work); the ties are given (YtcgnkcehjcednaaDoorTie.lean); close each card by the builder's one call (the guide's Derived/Test/ToyasCard.lean, 'card_holds'). Laid BY PROGRAM, IN A SANDBOX (cutbox-door.mjs). By AI agents, Wed Nov 11 2026. No macro, syntax, notation, axiom, sorry.
-/
import Derived.Test.YtcgnkcehjcednaaDoorRows
import GoSem.ClaimSeven
namespace Go.Proofs.YtcgnkcehjcednaaDoor
namespace Rows

/-- THE TIED CARD OF 'laws.FnExactReserved'. -/
def fnExactReservedCard : Claim7 := { stood := { row := fnExactReservedRow, standIns := [], harness := (true, "0e9973e9da5a4379cd0fd708c06a796c4d4a2e180725c18b48a7869f6d140ce3"), looks := false }, kinds := [], alts := [], laidByText := true, laidKinds := [.data, .pinned], laidTests := true, laidLooks := .later }
def FnExactReservedCardSaid : Prop := Claim7.holds Tryd.pinned (.plain (OpenSpec.ofChange fnExactReservedSpec)) fnExactReservedCard

/-- THE TIED CARD OF 'laws.FnExactLike'. -/
def fnExactLikeCard : Claim7 := { stood := { row := fnExactLikeRow, standIns := [], harness := (true, "0e9973e9da5a4379cd0fd708c06a796c4d4a2e180725c18b48a7869f6d140ce3"), looks := false }, kinds := [], alts := [], laidByText := true, laidKinds := [.data, .pinned], laidTests := true, laidLooks := .later }
def FnExactLikeCardSaid : Prop := Claim7.holds Tryd.pinned (.plain (OpenSpec.ofChange fnExactLikeSpec)) fnExactLikeCard

/-- THE TIED CARD OF 'laws.FnExactNameText'. -/
def fnExactNameTextCard : Claim7 := { stood := { row := fnExactNameTextRow, standIns := [], harness := (true, "0e9973e9da5a4379cd0fd708c06a796c4d4a2e180725c18b48a7869f6d140ce3"), looks := false }, kinds := [], alts := [], laidByText := true, laidKinds := [.data, .pinned], laidTests := true, laidLooks := .later }
def FnExactNameTextCardSaid : Prop := Claim7.holds Tryd.pinned (.plain (OpenSpec.ofChange fnExactNameTextSpec)) fnExactNameTextCard

/-- THE TIED CARD OF 'laws.FnExactLex'. -/
def fnExactLexCard : Claim7 := { stood := { row := fnExactLexRow, standIns := [], harness := (true, "0e9973e9da5a4379cd0fd708c06a796c4d4a2e180725c18b48a7869f6d140ce3"), looks := false }, kinds := [], alts := [], laidByText := true, laidKinds := [.data, .pinned], laidTests := true, laidLooks := .later }
def FnExactLexCardSaid : Prop := Claim7.holds Tryd.pinned (.plain (OpenSpec.ofChange fnExactLexSpec)) fnExactLexCard

/-- THE TIED CARD OF 'laws.FnExactUnlex'. -/
def fnExactUnlexCard : Claim7 := { stood := { row := fnExactUnlexRow, standIns := [], harness := (true, "0e9973e9da5a4379cd0fd708c06a796c4d4a2e180725c18b48a7869f6d140ce3"), looks := false }, kinds := [], alts := [], laidByText := true, laidKinds := [.data, .pinned], laidTests := true, laidLooks := .later }
def FnExactUnlexCardSaid : Prop := Claim7.holds Tryd.pinned (.plain (OpenSpec.ofChange fnExactUnlexSpec)) fnExactUnlexCard

/-- THE TIED CARD OF 'laws.FnLexed'. -/
def fnLexedCard : Claim7 := { stood := { row := fnLexedRow, standIns := [], harness := (true, "0e9973e9da5a4379cd0fd708c06a796c4d4a2e180725c18b48a7869f6d140ce3"), looks := false }, kinds := [], alts := [], laidByText := true, laidKinds := [.data, .pinned], laidTests := true, laidLooks := .later }
def FnLexedCardSaid : Prop := Claim7.holds Tryd.pinned (.plain (OpenSpec.ofChange fnLexedSpec)) fnLexedCard

/-- THE TIED CARD OF 'laws.FnExactBinary'. -/
def fnExactBinaryCard : Claim7 := { stood := { row := fnExactBinaryRow, standIns := [], harness := (true, "0e9973e9da5a4379cd0fd708c06a796c4d4a2e180725c18b48a7869f6d140ce3"), looks := false }, kinds := [], alts := [], laidByText := true, laidKinds := [.data, .pinned], laidTests := true, laidLooks := .later }
def FnExactBinaryCardSaid : Prop := Claim7.holds Tryd.pinned (.plain (OpenSpec.ofChange fnExactBinarySpec)) fnExactBinaryCard

/-- THE TIED CARD OF 'laws.FnWhole'. -/
def fnWholeCard : Claim7 := { stood := { row := fnWholeRow, standIns := [], harness := (true, "0e9973e9da5a4379cd0fd708c06a796c4d4a2e180725c18b48a7869f6d140ce3"), looks := false }, kinds := [], alts := [], laidByText := true, laidKinds := [.data, .pinned], laidTests := true, laidLooks := .later }
def FnWholeCardSaid : Prop := Claim7.holds Tryd.pinned (.plain (OpenSpec.ofChange fnWholeSpec)) fnWholeCard

/-- THE SECOND FORM's CARD OF 'laws.FnExactReserved'. -/
def fnExactReservedUptoCard : Claim7 := { stood := { row := fnExactReservedUptoRow, standIns := [], harness := (true, "0e9973e9da5a4379cd0fd708c06a796c4d4a2e180725c18b48a7869f6d140ce3"), looks := false }, kinds := [], alts := [], laidByText := true, laidKinds := [.data, .pinned], laidTests := true, laidLooks := .later }
def FnExactReservedUptoCardSaid : Prop := Claim7.holds Tryd.pinned (.plain (OpenSpec.upto fnExactReservedSpec)) fnExactReservedUptoCard

/-- THE SECOND FORM's CARD OF 'laws.FnExactLike'. -/
def fnExactLikeUptoCard : Claim7 := { stood := { row := fnExactLikeUptoRow, standIns := [], harness := (true, "0e9973e9da5a4379cd0fd708c06a796c4d4a2e180725c18b48a7869f6d140ce3"), looks := false }, kinds := [], alts := [], laidByText := true, laidKinds := [.data, .pinned], laidTests := true, laidLooks := .later }
def FnExactLikeUptoCardSaid : Prop := Claim7.holds Tryd.pinned (.plain (OpenSpec.upto fnExactLikeSpec)) fnExactLikeUptoCard

/-- THE SECOND FORM's CARD OF 'laws.FnExactNameText'. -/
def fnExactNameTextUptoCard : Claim7 := { stood := { row := fnExactNameTextUptoRow, standIns := [], harness := (true, "0e9973e9da5a4379cd0fd708c06a796c4d4a2e180725c18b48a7869f6d140ce3"), looks := false }, kinds := [], alts := [], laidByText := true, laidKinds := [.data, .pinned], laidTests := true, laidLooks := .later }
def FnExactNameTextUptoCardSaid : Prop := Claim7.holds Tryd.pinned (.plain (OpenSpec.upto fnExactNameTextSpec)) fnExactNameTextUptoCard

/-- THE SECOND FORM's CARD OF 'laws.FnExactLex'. -/
def fnExactLexUptoCard : Claim7 := { stood := { row := fnExactLexUptoRow, standIns := [], harness := (true, "0e9973e9da5a4379cd0fd708c06a796c4d4a2e180725c18b48a7869f6d140ce3"), looks := false }, kinds := [], alts := [], laidByText := true, laidKinds := [.data, .pinned], laidTests := true, laidLooks := .later }
def FnExactLexUptoCardSaid : Prop := Claim7.holds Tryd.pinned (.plain (OpenSpec.upto fnExactLexSpec)) fnExactLexUptoCard

/-- THE SECOND FORM's CARD OF 'laws.FnExactUnlex'. -/
def fnExactUnlexUptoCard : Claim7 := { stood := { row := fnExactUnlexUptoRow, standIns := [], harness := (true, "0e9973e9da5a4379cd0fd708c06a796c4d4a2e180725c18b48a7869f6d140ce3"), looks := false }, kinds := [], alts := [], laidByText := true, laidKinds := [.data, .pinned], laidTests := true, laidLooks := .later }
def FnExactUnlexUptoCardSaid : Prop := Claim7.holds Tryd.pinned (.plain (OpenSpec.upto fnExactUnlexSpec)) fnExactUnlexUptoCard

/-- THE SECOND FORM's CARD OF 'laws.FnLexed'. -/
def fnLexedUptoCard : Claim7 := { stood := { row := fnLexedUptoRow, standIns := [], harness := (true, "0e9973e9da5a4379cd0fd708c06a796c4d4a2e180725c18b48a7869f6d140ce3"), looks := false }, kinds := [], alts := [], laidByText := true, laidKinds := [.data, .pinned], laidTests := true, laidLooks := .later }
def FnLexedUptoCardSaid : Prop := Claim7.holds Tryd.pinned (.plain (OpenSpec.upto fnLexedSpec)) fnLexedUptoCard

/-- THE SECOND FORM's CARD OF 'laws.FnExactBinary'. -/
def fnExactBinaryUptoCard : Claim7 := { stood := { row := fnExactBinaryUptoRow, standIns := [], harness := (true, "0e9973e9da5a4379cd0fd708c06a796c4d4a2e180725c18b48a7869f6d140ce3"), looks := false }, kinds := [], alts := [], laidByText := true, laidKinds := [.data, .pinned], laidTests := true, laidLooks := .later }
def FnExactBinaryUptoCardSaid : Prop := Claim7.holds Tryd.pinned (.plain (OpenSpec.upto fnExactBinarySpec)) fnExactBinaryUptoCard

/-- THE SECOND FORM's CARD OF 'laws.FnWhole'. -/
def fnWholeUptoCard : Claim7 := { stood := { row := fnWholeUptoRow, standIns := [], harness := (true, "0e9973e9da5a4379cd0fd708c06a796c4d4a2e180725c18b48a7869f6d140ce3"), looks := false }, kinds := [], alts := [], laidByText := true, laidKinds := [.data, .pinned], laidTests := true, laidLooks := .later }
def FnWholeUptoCardSaid : Prop := Claim7.holds Tryd.pinned (.plain (OpenSpec.upto fnWholeSpec)) fnWholeUptoCard
end Rows
end Go.Proofs.YtcgnkcehjcednaaDoor
