/-
  DERIVED. GIVEN WITH THE SEED: THE CARDS: each row of YtjpcgnkgdaphoaaDoorRows.lean that lists a variable, with what it lists TIED to the program's text (the seventh form; the later family's looks); each row that meets fmt, with fmt's text TOLD by the authors' own Lean function (tested against real Go, not proved from fmt's source: count such statements apart). THE CARD IS WHAT COUNTS. Prove the row's statement (the work); the ties are given (YtjpcgnkgdaphoaaDoorTie.lean); close each card by the builder's one call (the guide's Derived/Test/ToyasCard.lean, 'card_holds'). Laid BY PROGRAM, IN A SANDBOX (cutbox-door.mjs). By AI agents, Wed Nov 11 2026. No macro, syntax, notation, axiom, sorry.
-/
import Derived.Test.YtjpcgnkgdaphoaaDoorRows
import GoSem.ClaimSeven
namespace Go.Proofs.YtjpcgnkgdaphoaaDoor
namespace Rows

/-- THE TIED CARD OF 'laws.FnExactReserved'. -/
def fnExactReservedCard : Claim7 := { stood := { row := fnExactReservedRow, standIns := [], harness := (true, "f054b0ff7e95d35115dbfe29586b2fb27d1cecf9c1ec64b400fe0853349db1f8"), looks := false }, kinds := [], alts := [], laidByText := true, laidKinds := [.data, .pinned], laidTests := true, laidLooks := .later }
def FnExactReservedCardSaid : Prop := Claim7.holds Tryd.pinned (.plain (OpenSpec.ofChange fnExactReservedSpec)) fnExactReservedCard

/-- THE TIED CARD OF 'laws.FnExactNameText'. -/
def fnExactNameTextCard : Claim7 := { stood := { row := fnExactNameTextRow, standIns := [], harness := (true, "f054b0ff7e95d35115dbfe29586b2fb27d1cecf9c1ec64b400fe0853349db1f8"), looks := false }, kinds := [], alts := [], laidByText := true, laidKinds := [.data, .pinned], laidTests := true, laidLooks := .later }
def FnExactNameTextCardSaid : Prop := Claim7.holds Tryd.pinned (.plain (OpenSpec.ofChange fnExactNameTextSpec)) fnExactNameTextCard

/-- THE SECOND FORM's CARD OF 'laws.FnExactReserved'. -/
def fnExactReservedUptoCard : Claim7 := { stood := { row := fnExactReservedUptoRow, standIns := [], harness := (true, "f054b0ff7e95d35115dbfe29586b2fb27d1cecf9c1ec64b400fe0853349db1f8"), looks := false }, kinds := [], alts := [], laidByText := true, laidKinds := [.data, .pinned], laidTests := true, laidLooks := .later }
def FnExactReservedUptoCardSaid : Prop := Claim7.holds Tryd.pinned (.plain (OpenSpec.upto fnExactReservedSpec)) fnExactReservedUptoCard

/-- THE SECOND FORM's CARD OF 'laws.FnExactNameText'. -/
def fnExactNameTextUptoCard : Claim7 := { stood := { row := fnExactNameTextUptoRow, standIns := [], harness := (true, "f054b0ff7e95d35115dbfe29586b2fb27d1cecf9c1ec64b400fe0853349db1f8"), looks := false }, kinds := [], alts := [], laidByText := true, laidKinds := [.data, .pinned], laidTests := true, laidLooks := .later }
def FnExactNameTextUptoCardSaid : Prop := Claim7.holds Tryd.pinned (.plain (OpenSpec.upto fnExactNameTextSpec)) fnExactNameTextUptoCard
end Rows
end Go.Proofs.YtjpcgnkgdaphoaaDoor
