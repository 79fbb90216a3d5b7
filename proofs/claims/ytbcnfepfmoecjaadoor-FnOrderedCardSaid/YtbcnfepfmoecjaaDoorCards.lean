/-
  DERIVED. GIVEN WITH THE SEED: THE CARDS: each row of YtbcnfepfmoecjaaDoorRows.lean that lists a variable, with what it lists TIED to the program's text (the seventh form; the later family's looks); each row that meets fmt, with fmt's text TOLD by the authors' own Lean function (tested against real Go, not proved from fmt's source: count such statements apart). THE CARD IS WHAT COUNTS. Prove the row's statement (the work); the ties are given (YtbcnfepfmoecjaaDoorTie.lean); close each card by the builder's one call (the guide's Derived/Test/ToyasCard.lean, 'card_holds'). Laid BY PROGRAM, IN A SANDBOX (cutbox-door.mjs). By AI agents, Wed Nov 11 2026. No macro, syntax, notation, axiom, sorry.
-/
import Derived.Test.YtbcnfepfmoecjaaDoorRows
import GoSem.ClaimSeven
namespace Go.Proofs.YtbcnfepfmoecjaaDoor
namespace Rows

/-- THE TIED CARD OF 'laws.FnExactValueOK'. -/
def fnExactValueOKCard : Claim7 := { stood := { row := fnExactValueOKRow, standIns := [], harness := (true, "acdb8656272c62cb2d281d4d69dc9b354dcb66bb48a9df9a64ee731e3f2c7cd2"), looks := false }, kinds := [], alts := [], laidByText := true, laidKinds := [.data, .pinned], laidTests := true, laidLooks := .later }
def FnExactValueOKCardSaid : Prop := Claim7.holds Tryd.pinned (.plain (OpenSpec.ofChange fnExactValueOKSpec)) fnExactValueOKCard

/-- THE TIED CARD OF 'laws.FnExactLike'. -/
def fnExactLikeCard : Claim7 := { stood := { row := fnExactLikeRow, standIns := [], harness := (true, "acdb8656272c62cb2d281d4d69dc9b354dcb66bb48a9df9a64ee731e3f2c7cd2"), looks := false }, kinds := [], alts := [], laidByText := true, laidKinds := [.data, .pinned], laidTests := true, laidLooks := .later }
def FnExactLikeCardSaid : Prop := Claim7.holds Tryd.pinned (.plain (OpenSpec.ofChange fnExactLikeSpec)) fnExactLikeCard

/-- THE TIED CARD OF 'laws.FnExactCompare'. -/
def fnExactCompareCard : Claim7 := { stood := { row := fnExactCompareRow, standIns := [], harness := (true, "acdb8656272c62cb2d281d4d69dc9b354dcb66bb48a9df9a64ee731e3f2c7cd2"), looks := false }, kinds := [], alts := [], laidByText := true, laidKinds := [.data, .pinned], laidTests := true, laidLooks := .later }
def FnExactCompareCardSaid : Prop := Claim7.holds Tryd.pinned (.plain (OpenSpec.ofChange fnExactCompareSpec)) fnExactCompareCard

/-- THE TIED CARD OF 'laws.FnExactUnary'. -/
def fnExactUnaryCard : Claim7 := { stood := { row := fnExactUnaryRow, standIns := [], harness := (true, "acdb8656272c62cb2d281d4d69dc9b354dcb66bb48a9df9a64ee731e3f2c7cd2"), looks := false }, kinds := [], alts := [], laidByText := true, laidKinds := [.data, .pinned], laidTests := true, laidLooks := .later }
def FnExactUnaryCardSaid : Prop := Claim7.holds Tryd.pinned (.plain (OpenSpec.ofChange fnExactUnarySpec)) fnExactUnaryCard

/-- THE TIED CARD OF 'laws.FnExactPlain'. -/
def fnExactPlainCard : Claim7 := { stood := { row := fnExactPlainRow, standIns := [], harness := (true, "acdb8656272c62cb2d281d4d69dc9b354dcb66bb48a9df9a64ee731e3f2c7cd2"), looks := false }, kinds := [], alts := [], laidByText := true, laidKinds := [.data, .data, .data, .data, .pinned], laidTests := true, laidLooks := .later }
def FnExactPlainCardSaid : Prop := Claim7.holds Tryd.pinned (.plain (OpenSpec.ofChange fnExactPlainSpec)) fnExactPlainCard

/-- THE TIED CARD OF 'laws.FnOrdered'. -/
def fnOrderedCard : Claim7 := { stood := { row := fnOrderedRow, standIns := [], harness := (true, "acdb8656272c62cb2d281d4d69dc9b354dcb66bb48a9df9a64ee731e3f2c7cd2"), looks := false }, kinds := [], alts := [], laidByText := true, laidKinds := [.data, .pinned], laidTests := true, laidLooks := .later }
def FnOrderedCardSaid : Prop := Claim7.holds Tryd.pinned (.plain (OpenSpec.ofChange fnOrderedSpec)) fnOrderedCard

/-- THE TIED CARD OF 'laws.FnExactBinary'. -/
def fnExactBinaryCard : Claim7 := { stood := { row := fnExactBinaryRow, standIns := [], harness := (true, "acdb8656272c62cb2d281d4d69dc9b354dcb66bb48a9df9a64ee731e3f2c7cd2"), looks := false }, kinds := [], alts := [], laidByText := true, laidKinds := [.data, .pinned], laidTests := true, laidLooks := .later }
def FnExactBinaryCardSaid : Prop := Claim7.holds Tryd.pinned (.plain (OpenSpec.ofChange fnExactBinarySpec)) fnExactBinaryCard

/-- THE TIED CARD OF 'laws.FnWhole'. -/
def fnWholeCard : Claim7 := { stood := { row := fnWholeRow, standIns := [], harness := (true, "acdb8656272c62cb2d281d4d69dc9b354dcb66bb48a9df9a64ee731e3f2c7cd2"), looks := false }, kinds := [], alts := [], laidByText := true, laidKinds := [.data, .pinned], laidTests := true, laidLooks := .later }
def FnWholeCardSaid : Prop := Claim7.holds Tryd.pinned (.plain (OpenSpec.ofChange fnWholeSpec)) fnWholeCard

/-- THE SECOND FORM's CARD OF 'laws.FnExactValueOK'. -/
def fnExactValueOKUptoCard : Claim7 := { stood := { row := fnExactValueOKUptoRow, standIns := [], harness := (true, "acdb8656272c62cb2d281d4d69dc9b354dcb66bb48a9df9a64ee731e3f2c7cd2"), looks := false }, kinds := [], alts := [], laidByText := true, laidKinds := [.data, .pinned], laidTests := true, laidLooks := .later }
def FnExactValueOKUptoCardSaid : Prop := Claim7.holds Tryd.pinned (.plain (OpenSpec.upto fnExactValueOKSpec)) fnExactValueOKUptoCard

/-- THE SECOND FORM's CARD OF 'laws.FnExactLike'. -/
def fnExactLikeUptoCard : Claim7 := { stood := { row := fnExactLikeUptoRow, standIns := [], harness := (true, "acdb8656272c62cb2d281d4d69dc9b354dcb66bb48a9df9a64ee731e3f2c7cd2"), looks := false }, kinds := [], alts := [], laidByText := true, laidKinds := [.data, .pinned], laidTests := true, laidLooks := .later }
def FnExactLikeUptoCardSaid : Prop := Claim7.holds Tryd.pinned (.plain (OpenSpec.upto fnExactLikeSpec)) fnExactLikeUptoCard

/-- THE SECOND FORM's CARD OF 'laws.FnExactCompare'. -/
def fnExactCompareUptoCard : Claim7 := { stood := { row := fnExactCompareUptoRow, standIns := [], harness := (true, "acdb8656272c62cb2d281d4d69dc9b354dcb66bb48a9df9a64ee731e3f2c7cd2"), looks := false }, kinds := [], alts := [], laidByText := true, laidKinds := [.data, .pinned], laidTests := true, laidLooks := .later }
def FnExactCompareUptoCardSaid : Prop := Claim7.holds Tryd.pinned (.plain (OpenSpec.upto fnExactCompareSpec)) fnExactCompareUptoCard

/-- THE SECOND FORM's CARD OF 'laws.FnExactUnary'. -/
def fnExactUnaryUptoCard : Claim7 := { stood := { row := fnExactUnaryUptoRow, standIns := [], harness := (true, "acdb8656272c62cb2d281d4d69dc9b354dcb66bb48a9df9a64ee731e3f2c7cd2"), looks := false }, kinds := [], alts := [], laidByText := true, laidKinds := [.data, .pinned], laidTests := true, laidLooks := .later }
def FnExactUnaryUptoCardSaid : Prop := Claim7.holds Tryd.pinned (.plain (OpenSpec.upto fnExactUnarySpec)) fnExactUnaryUptoCard

/-- THE SECOND FORM's CARD OF 'laws.FnExactPlain'. -/
def fnExactPlainUptoCard : Claim7 := { stood := { row := fnExactPlainUptoRow, standIns := [], harness := (true, "acdb8656272c62cb2d281d4d69dc9b354dcb66bb48a9df9a64ee731e3f2c7cd2"), looks := false }, kinds := [], alts := [], laidByText := true, laidKinds := [.data, .data, .data, .data, .pinned], laidTests := true, laidLooks := .later }
def FnExactPlainUptoCardSaid : Prop := Claim7.holds Tryd.pinned (.plain (OpenSpec.upto fnExactPlainSpec)) fnExactPlainUptoCard

/-- THE SECOND FORM's CARD OF 'laws.FnOrdered'. -/
def fnOrderedUptoCard : Claim7 := { stood := { row := fnOrderedUptoRow, standIns := [], harness := (true, "acdb8656272c62cb2d281d4d69dc9b354dcb66bb48a9df9a64ee731e3f2c7cd2"), looks := false }, kinds := [], alts := [], laidByText := true, laidKinds := [.data, .pinned], laidTests := true, laidLooks := .later }
def FnOrderedUptoCardSaid : Prop := Claim7.holds Tryd.pinned (.plain (OpenSpec.upto fnOrderedSpec)) fnOrderedUptoCard

/-- THE SECOND FORM's CARD OF 'laws.FnExactBinary'. -/
def fnExactBinaryUptoCard : Claim7 := { stood := { row := fnExactBinaryUptoRow, standIns := [], harness := (true, "acdb8656272c62cb2d281d4d69dc9b354dcb66bb48a9df9a64ee731e3f2c7cd2"), looks := false }, kinds := [], alts := [], laidByText := true, laidKinds := [.data, .pinned], laidTests := true, laidLooks := .later }
def FnExactBinaryUptoCardSaid : Prop := Claim7.holds Tryd.pinned (.plain (OpenSpec.upto fnExactBinarySpec)) fnExactBinaryUptoCard

/-- THE SECOND FORM's CARD OF 'laws.FnWhole'. -/
def fnWholeUptoCard : Claim7 := { stood := { row := fnWholeUptoRow, standIns := [], harness := (true, "acdb8656272c62cb2d281d4d69dc9b354dcb66bb48a9df9a64ee731e3f2c7cd2"), looks := false }, kinds := [], alts := [], laidByText := true, laidKinds := [.data, .pinned], laidTests := true, laidLooks := .later }
def FnWholeUptoCardSaid : Prop := Claim7.holds Tryd.pinned (.plain (OpenSpec.upto fnWholeSpec)) fnWholeUptoCard
end Rows
end Go.Proofs.YtbcnfepfmoecjaaDoor
