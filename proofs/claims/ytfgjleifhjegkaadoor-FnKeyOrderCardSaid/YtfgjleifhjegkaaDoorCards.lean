/-
  DERIVED. GIVEN WITH THE SEED: THE CARDS: each row of YtfgjleifhjegkaaDoorRows.lean that lists a variable, with what it lists TIED to the program's text (the seventh form; the later family's looks); each row that meets fmt, with fmt's text TOLD by the authors' own Lean function (tested against real Go, not proved from fmt's source: count such statements apart). THE CARD IS WHAT COUNTS. Prove the row's statement (the work); the ties are given (YtfgjleifhjegkaaDoorTie.lean); close each card by the builder's one call (the guide's Derived/Test/ToyasCard.lean, 'card_holds'). Laid BY PROGRAM, IN A SANDBOX (cutbox-door.mjs). By AI agents, Wed Nov 11 2026. No macro, syntax, notation, axiom, sorry.
-/
import Derived.Test.YtfgjleifhjegkaaDoorRows
import GoSem.ClaimSeven
namespace Go.Proofs.YtfgjleifhjegkaaDoor
namespace Rows

/-- THE TIED CARD OF 'laws.FnExactKeyBytes'. -/
def fnExactKeyBytesCard : Claim7 := { stood := { row := fnExactKeyBytesRow, standIns := [], harness := (true, "3a36029fd98baa5f0ac7e7a2275b91a913080fb3dce22676ba0b91e07ef771ff"), looks := false }, kinds := [], alts := [], laidByText := true, laidKinds := [.data, .pinned], laidTests := true, laidLooks := .later }
def FnExactKeyBytesCardSaid : Prop := Claim7.holds Tryd.pinned (.plain (OpenSpec.ofChange fnExactKeyBytesSpec)) fnExactKeyBytesCard

/-- THE TIED CARD OF 'laws.FnExactRowBytes'. -/
def fnExactRowBytesCard : Claim7 := { stood := { row := fnExactRowBytesRow, standIns := [], harness := (true, "3a36029fd98baa5f0ac7e7a2275b91a913080fb3dce22676ba0b91e07ef771ff"), looks := false }, kinds := [], alts := [], laidByText := true, laidKinds := [.data, .pinned], laidTests := true, laidLooks := .later }
def FnExactRowBytesCardSaid : Prop := Claim7.holds Tryd.pinned (.plain (OpenSpec.ofChange fnExactRowBytesSpec)) fnExactRowBytesCard

/-- THE TIED CARD OF 'laws.FnExactKeyValues'. -/
def fnExactKeyValuesCard : Claim7 := { stood := { row := fnExactKeyValuesRow, standIns := [], harness := (true, "3a36029fd98baa5f0ac7e7a2275b91a913080fb3dce22676ba0b91e07ef771ff"), looks := false }, kinds := [], alts := [], laidByText := true, laidKinds := [.data, .pinned], laidTests := true, laidLooks := .later }
def FnExactKeyValuesCardSaid : Prop := Claim7.holds Tryd.pinned (.plain (OpenSpec.ofChange fnExactKeyValuesSpec)) fnExactKeyValuesCard

/-- THE TIED CARD OF 'laws.FnExactRowValues'. -/
def fnExactRowValuesCard : Claim7 := { stood := { row := fnExactRowValuesRow, standIns := [], harness := (true, "3a36029fd98baa5f0ac7e7a2275b91a913080fb3dce22676ba0b91e07ef771ff"), looks := false }, kinds := [], alts := [], laidByText := true, laidKinds := [.data, .pinned], laidTests := true, laidLooks := .later }
def FnExactRowValuesCardSaid : Prop := Claim7.holds Tryd.pinned (.plain (OpenSpec.ofChange fnExactRowValuesSpec)) fnExactRowValuesCard

/-- THE TIED CARD OF 'laws.FnKeyOrder'. -/
def fnKeyOrderCard : Claim7 := { stood := { row := fnKeyOrderRow, standIns := [], harness := (true, "3a36029fd98baa5f0ac7e7a2275b91a913080fb3dce22676ba0b91e07ef771ff"), looks := false }, kinds := [], alts := [], laidByText := true, laidKinds := [.data, .pinned], laidTests := true, laidLooks := .later }
def FnKeyOrderCardSaid : Prop := Claim7.holds Tryd.pinned (.plain (OpenSpec.ofChange fnKeyOrderSpec)) fnKeyOrderCard

/-- THE SECOND FORM's CARD OF 'laws.FnExactKeyBytes'. -/
def fnExactKeyBytesUptoCard : Claim7 := { stood := { row := fnExactKeyBytesUptoRow, standIns := [], harness := (true, "3a36029fd98baa5f0ac7e7a2275b91a913080fb3dce22676ba0b91e07ef771ff"), looks := false }, kinds := [], alts := [], laidByText := true, laidKinds := [.data, .pinned], laidTests := true, laidLooks := .later }
def FnExactKeyBytesUptoCardSaid : Prop := Claim7.holds Tryd.pinned (.plain (OpenSpec.upto fnExactKeyBytesSpec)) fnExactKeyBytesUptoCard

/-- THE SECOND FORM's CARD OF 'laws.FnExactRowBytes'. -/
def fnExactRowBytesUptoCard : Claim7 := { stood := { row := fnExactRowBytesUptoRow, standIns := [], harness := (true, "3a36029fd98baa5f0ac7e7a2275b91a913080fb3dce22676ba0b91e07ef771ff"), looks := false }, kinds := [], alts := [], laidByText := true, laidKinds := [.data, .pinned], laidTests := true, laidLooks := .later }
def FnExactRowBytesUptoCardSaid : Prop := Claim7.holds Tryd.pinned (.plain (OpenSpec.upto fnExactRowBytesSpec)) fnExactRowBytesUptoCard

/-- THE SECOND FORM's CARD OF 'laws.FnExactKeyValues'. -/
def fnExactKeyValuesUptoCard : Claim7 := { stood := { row := fnExactKeyValuesUptoRow, standIns := [], harness := (true, "3a36029fd98baa5f0ac7e7a2275b91a913080fb3dce22676ba0b91e07ef771ff"), looks := false }, kinds := [], alts := [], laidByText := true, laidKinds := [.data, .pinned], laidTests := true, laidLooks := .later }
def FnExactKeyValuesUptoCardSaid : Prop := Claim7.holds Tryd.pinned (.plain (OpenSpec.upto fnExactKeyValuesSpec)) fnExactKeyValuesUptoCard

/-- THE SECOND FORM's CARD OF 'laws.FnExactRowValues'. -/
def fnExactRowValuesUptoCard : Claim7 := { stood := { row := fnExactRowValuesUptoRow, standIns := [], harness := (true, "3a36029fd98baa5f0ac7e7a2275b91a913080fb3dce22676ba0b91e07ef771ff"), looks := false }, kinds := [], alts := [], laidByText := true, laidKinds := [.data, .pinned], laidTests := true, laidLooks := .later }
def FnExactRowValuesUptoCardSaid : Prop := Claim7.holds Tryd.pinned (.plain (OpenSpec.upto fnExactRowValuesSpec)) fnExactRowValuesUptoCard

/-- THE SECOND FORM's CARD OF 'laws.FnKeyOrder'. -/
def fnKeyOrderUptoCard : Claim7 := { stood := { row := fnKeyOrderUptoRow, standIns := [], harness := (true, "3a36029fd98baa5f0ac7e7a2275b91a913080fb3dce22676ba0b91e07ef771ff"), looks := false }, kinds := [], alts := [], laidByText := true, laidKinds := [.data, .pinned], laidTests := true, laidLooks := .later }
def FnKeyOrderUptoCardSaid : Prop := Claim7.holds Tryd.pinned (.plain (OpenSpec.upto fnKeyOrderSpec)) fnKeyOrderUptoCard
end Rows
end Go.Proofs.YtfgjleifhjegkaaDoor
