/-
  DERIVED. GIVEN WITH THE SEED: THE CARDS: each row of YtdcdoeolaongkaaGreatDoorRows.lean that lists a variable, with what it lists TIED to the program's text (the seventh form; the later family's looks); each row that meets fmt, with fmt's text TOLD by the authors' own Lean function (tested against real Go, not proved from fmt's source: count such statements apart). THE CARD IS WHAT COUNTS. Prove the row's statement (the work); the ties are given (YtdcdoeolaongkaaGreatDoorTie.lean); close each card by the builder's one call (the guide's Derived/Test/ToyasCard.lean, 'card_holds'). Laid BY PROGRAM, IN A SANDBOX (cutbox-door.mjs). By AI agents, Wed Nov 11 2026. No macro, syntax, notation, axiom, sorry.
-/
import Derived.Test.YtdcdoeolaongkaaGreatDoorRows
import GoSem.ClaimSeven
namespace Go.Proofs.YtdcdoeolaongkaaGreatDoor
namespace Rows

/-- THE TIED CARD OF 'laws.FnExactCallKind'. -/
def fnExactCallKindCard : Claim7 := { stood := { row := fnExactCallKindRow, standIns := [], harness := (true, "58f1c17f32520fb41141cabd365698ce734a3c6e9361b2bd6fa4a0966518f0c5"), looks := false }, kinds := [], alts := [], laidByText := true, laidKinds := [.data, .pinned], laidTests := true, laidLooks := .later }
def FnExactCallKindCardSaid : Prop := Claim7.holds Tryz.pinned (.plain (OpenSpec.ofChange fnExactCallKindSpec)) fnExactCallKindCard

/-- THE TIED CARD OF 'laws.FnCastBack'. -/
def fnCastBackCard : Claim7 := { stood := { row := fnCastBackRow, standIns := [], harness := (true, "58f1c17f32520fb41141cabd365698ce734a3c6e9361b2bd6fa4a0966518f0c5"), looks := false }, kinds := [], alts := [], laidByText := true, laidKinds := [.data, .data, .data, .data, .pinned], laidTests := true, laidLooks := .later }
def FnCastBackCardSaid : Prop := Claim7.holds Tryz.pinned (.plain (OpenSpec.ofChange fnCastBackSpec)) fnCastBackCard

/-- THE TIED CARD OF 'laws.FnDates'. -/
def fnDatesCard : Claim7 := { stood := { row := fnDatesRow, standIns := [], harness := (true, "58f1c17f32520fb41141cabd365698ce734a3c6e9361b2bd6fa4a0966518f0c5"), looks := false }, kinds := [], alts := [], laidByText := true, laidKinds := [.data, .data, .data, .data, .pinned], laidTests := true, laidLooks := .later }
def FnDatesCardSaid : Prop := Claim7.holds Tryz.pinned (.plain (OpenSpec.ofChange fnDatesSpec)) fnDatesCard

/-- THE TIED CARD OF 'laws.FnExactCast'. -/
def fnExactCastCard : Claim7 := { stood := { row := fnExactCastRow, standIns := [], harness := (true, "58f1c17f32520fb41141cabd365698ce734a3c6e9361b2bd6fa4a0966518f0c5"), looks := false }, kinds := [], alts := [], laidByText := true, laidKinds := [.data, .data, .data, .data, .pinned], laidTests := true, laidLooks := .later }
def FnExactCastCardSaid : Prop := Claim7.holds Tryz.pinned (.plain (OpenSpec.ofChange fnExactCastSpec)) fnExactCastCard

/-- THE TIED CARD OF 'laws.FnLiked'. -/
def fnLikedCard : Claim7 := { stood := { row := fnLikedRow, standIns := [], harness := (true, "58f1c17f32520fb41141cabd365698ce734a3c6e9361b2bd6fa4a0966518f0c5"), looks := false }, kinds := [], alts := [], laidByText := true, laidKinds := [.data, .pinned], laidTests := true, laidLooks := .later }
def FnLikedCardSaid : Prop := Claim7.holds Tryz.pinned (.plain (OpenSpec.ofChange fnLikedSpec)) fnLikedCard

/-- THE TIED CARD OF 'laws.FnExactCall'. -/
def fnExactCallCard : Claim7 := { stood := { row := fnExactCallRow, standIns := [], harness := (true, "58f1c17f32520fb41141cabd365698ce734a3c6e9361b2bd6fa4a0966518f0c5"), looks := false }, kinds := [], alts := [], laidByText := true, laidKinds := [.data, .pinned], laidTests := true, laidLooks := .later }
def FnExactCallCardSaid : Prop := Claim7.holds Tryz.pinned (.plain (OpenSpec.ofChange fnExactCallSpec)) fnExactCallCard

/-- THE SECOND FORM's CARD OF 'laws.FnExactCallKind'. -/
def fnExactCallKindUptoCard : Claim7 := { stood := { row := fnExactCallKindUptoRow, standIns := [], harness := (true, "58f1c17f32520fb41141cabd365698ce734a3c6e9361b2bd6fa4a0966518f0c5"), looks := false }, kinds := [], alts := [], laidByText := true, laidKinds := [.data, .pinned], laidTests := true, laidLooks := .later }
def FnExactCallKindUptoCardSaid : Prop := Claim7.holds Tryz.pinned (.plain (OpenSpec.upto fnExactCallKindSpec)) fnExactCallKindUptoCard

/-- THE SECOND FORM's CARD OF 'laws.FnCastBack'. -/
def fnCastBackUptoCard : Claim7 := { stood := { row := fnCastBackUptoRow, standIns := [], harness := (true, "58f1c17f32520fb41141cabd365698ce734a3c6e9361b2bd6fa4a0966518f0c5"), looks := false }, kinds := [], alts := [], laidByText := true, laidKinds := [.data, .data, .data, .data, .pinned], laidTests := true, laidLooks := .later }
def FnCastBackUptoCardSaid : Prop := Claim7.holds Tryz.pinned (.plain (OpenSpec.upto fnCastBackSpec)) fnCastBackUptoCard

/-- THE SECOND FORM's CARD OF 'laws.FnDates'. -/
def fnDatesUptoCard : Claim7 := { stood := { row := fnDatesUptoRow, standIns := [], harness := (true, "58f1c17f32520fb41141cabd365698ce734a3c6e9361b2bd6fa4a0966518f0c5"), looks := false }, kinds := [], alts := [], laidByText := true, laidKinds := [.data, .data, .data, .data, .pinned], laidTests := true, laidLooks := .later }
def FnDatesUptoCardSaid : Prop := Claim7.holds Tryz.pinned (.plain (OpenSpec.upto fnDatesSpec)) fnDatesUptoCard

/-- THE SECOND FORM's CARD OF 'laws.FnExactCast'. -/
def fnExactCastUptoCard : Claim7 := { stood := { row := fnExactCastUptoRow, standIns := [], harness := (true, "58f1c17f32520fb41141cabd365698ce734a3c6e9361b2bd6fa4a0966518f0c5"), looks := false }, kinds := [], alts := [], laidByText := true, laidKinds := [.data, .data, .data, .data, .pinned], laidTests := true, laidLooks := .later }
def FnExactCastUptoCardSaid : Prop := Claim7.holds Tryz.pinned (.plain (OpenSpec.upto fnExactCastSpec)) fnExactCastUptoCard

/-- THE SECOND FORM's CARD OF 'laws.FnLiked'. -/
def fnLikedUptoCard : Claim7 := { stood := { row := fnLikedUptoRow, standIns := [], harness := (true, "58f1c17f32520fb41141cabd365698ce734a3c6e9361b2bd6fa4a0966518f0c5"), looks := false }, kinds := [], alts := [], laidByText := true, laidKinds := [.data, .pinned], laidTests := true, laidLooks := .later }
def FnLikedUptoCardSaid : Prop := Claim7.holds Tryz.pinned (.plain (OpenSpec.upto fnLikedSpec)) fnLikedUptoCard

/-- THE SECOND FORM's CARD OF 'laws.FnExactCall'. -/
def fnExactCallUptoCard : Claim7 := { stood := { row := fnExactCallUptoRow, standIns := [], harness := (true, "58f1c17f32520fb41141cabd365698ce734a3c6e9361b2bd6fa4a0966518f0c5"), looks := false }, kinds := [], alts := [], laidByText := true, laidKinds := [.data, .pinned], laidTests := true, laidLooks := .later }
def FnExactCallUptoCardSaid : Prop := Claim7.holds Tryz.pinned (.plain (OpenSpec.upto fnExactCallSpec)) fnExactCallUptoCard
end Rows
end Go.Proofs.YtdcdoeolaongkaaGreatDoor
