/-
  DERIVED. GIVEN WITH THE SEED: THE CARDS: each row of YtambneapofaclaaGreatDoorRows.lean that lists a variable, with what it lists TIED to the program's text (the seventh form; the later family's looks); each row that meets fmt, with fmt's text TOLD by the authors' own Lean function (tested against real Go, not proved from fmt's source: count such statements apart). THE CARD IS WHAT COUNTS. Prove the row's statement (the work); the ties are given (YtambneapofaclaaGreatDoorTie.lean); close each card by the builder's one call (the guide's Derived/Test/ToyasCard.lean, 'card_holds'). Laid BY PROGRAM, IN A SANDBOX (cutbox-door.mjs). By AI agents, Wed Nov 11 2026. No macro, syntax, notation, axiom, sorry.
-/
import Derived.Test.YtambneapofaclaaGreatDoorRows
import GoSem.ClaimSeven
namespace Go.Proofs.YtambneapofaclaaGreatDoor
namespace Rows

/-- THE TIED CARD OF 'laws.FnGameText'. -/
def fnGameTextCard : Claim7 := { stood := { row := fnGameTextRow, standIns := [], harness := (true, "071f360cc80da0d928e88bf5cb047422f835306b21199de7bc3193141e69f6aa"), looks := true }, kinds := [], alts := [], laidByText := true, laidKinds := [.data, .data, .data, .data, .handle, .sentinel, .sentinel, .pinned], laidTests := true, laidLooks := .later }
def FnGameTextCardSaid : Prop := Claim7.holds Tryz.pinned (.plain (OpenSpec.ofChange fnGameTextSpec)) fnGameTextCard

/-- THE TIED CARD OF 'laws.FnExactParseGame'. -/
def fnExactParseGameCard : Claim7 := { stood := { row := fnExactParseGameRow, standIns := [], harness := (true, "071f360cc80da0d928e88bf5cb047422f835306b21199de7bc3193141e69f6aa"), looks := true }, kinds := [], alts := [], laidByText := true, laidKinds := [.data, .data, .data, .data, .handle, .sentinel, .sentinel, .pinned], laidTests := true, laidLooks := .later }
def FnExactParseGameCardSaid : Prop := Claim7.holds Tryz.pinned (.plain (OpenSpec.ofChange fnExactParseGameSpec)) fnExactParseGameCard

/-- THE SECOND FORM's CARD OF 'laws.FnGameText'. -/
def fnGameTextUptoCard : Claim7 := { stood := { row := fnGameTextUptoRow, standIns := [], harness := (true, "071f360cc80da0d928e88bf5cb047422f835306b21199de7bc3193141e69f6aa"), looks := true }, kinds := [], alts := [], laidByText := true, laidKinds := [.data, .data, .data, .data, .handle, .sentinel, .sentinel, .pinned], laidTests := true, laidLooks := .later }
def FnGameTextUptoCardSaid : Prop := Claim7.holds Tryz.pinned (.plain (OpenSpec.upto fnGameTextSpec)) fnGameTextUptoCard

/-- THE SECOND FORM's CARD OF 'laws.FnExactParseGame'. -/
def fnExactParseGameUptoCard : Claim7 := { stood := { row := fnExactParseGameUptoRow, standIns := [], harness := (true, "071f360cc80da0d928e88bf5cb047422f835306b21199de7bc3193141e69f6aa"), looks := true }, kinds := [], alts := [], laidByText := true, laidKinds := [.data, .data, .data, .data, .handle, .sentinel, .sentinel, .pinned], laidTests := true, laidLooks := .later }
def FnExactParseGameUptoCardSaid : Prop := Claim7.holds Tryz.pinned (.plain (OpenSpec.upto fnExactParseGameSpec)) fnExactParseGameUptoCard
end Rows
end Go.Proofs.YtambneapofaclaaGreatDoor
