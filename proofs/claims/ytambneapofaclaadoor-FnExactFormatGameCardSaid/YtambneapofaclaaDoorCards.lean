/-
  DERIVED. GIVEN WITH THE SEED: THE CARDS: each row of YtambneapofaclaaDoorRows.lean that lists a variable, with what it lists TIED to the program's text (the seventh form; the later family's looks); each row that meets fmt, with fmt's text TOLD by the authors' own Lean function (tested against real Go, not proved from fmt's source: count such statements apart). THE CARD IS WHAT COUNTS. Prove the row's statement (the work); the ties are given (YtambneapofaclaaDoorTie.lean); close each card by the builder's one call (the guide's Derived/Test/ToyasCard.lean, 'card_holds'). Laid BY PROGRAM, IN A SANDBOX (cutbox-door.mjs). By AI agents, Wed Nov 11 2026. No macro, syntax, notation, axiom, sorry.
-/
import Derived.Test.YtambneapofaclaaDoorRows
import GoSem.ClaimSeven
namespace Go.Proofs.YtambneapofaclaaDoor
namespace Rows

/-- THE TIED CARD OF 'laws.FnExactFormatGame'. -/
def fnExactFormatGameCard : Claim7 := { stood := { row := fnExactFormatGameRow, standIns := [], harness := (true, "6ea3e2bf9d7b1190a8e9abfd0e215b96bb34aa0626535d497503796dad5bc3b9"), looks := false }, kinds := [], alts := [], laidByText := true, laidKinds := [.data, .data, .data], laidTests := true, laidLooks := .later }
def FnExactFormatGameCardSaid : Prop := Claim7.holds Tryd.pinned (.plain (OpenSpec.ofChange fnExactFormatGameSpec)) fnExactFormatGameCard

/-- THE SECOND FORM's CARD OF 'laws.FnExactFormatGame'. -/
def fnExactFormatGameUptoCard : Claim7 := { stood := { row := fnExactFormatGameUptoRow, standIns := [], harness := (true, "6ea3e2bf9d7b1190a8e9abfd0e215b96bb34aa0626535d497503796dad5bc3b9"), looks := false }, kinds := [], alts := [], laidByText := true, laidKinds := [.data, .data, .data], laidTests := true, laidLooks := .later }
def FnExactFormatGameUptoCardSaid : Prop := Claim7.holds Tryd.pinned (.plain (OpenSpec.upto fnExactFormatGameSpec)) fnExactFormatGameUptoCard
end Rows
end Go.Proofs.YtambneapofaclaaDoor
