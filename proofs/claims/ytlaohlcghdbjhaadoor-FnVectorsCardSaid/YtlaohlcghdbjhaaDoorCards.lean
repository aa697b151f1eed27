/-
  DERIVED. GIVEN WITH THE SEED: THE CARDS: each row of YtlaohlcghdbjhaaDoorRows.lean that lists a variable, with what it lists TIED to the program's text (the seventh form; the later family's looks); each row that meets fmt, with fmt's text TOLD by the authors' own Lean function (tested against real Go, not proved from fmt's source: count such statements apart). THE CARD IS WHAT COUNTS. Prove the row's statement (the work); the ties are given (YtlaohlcghdbjhaaDoorTie.lean); close each card by the builder's one call (the guide's Derived/Test/ToyasCard.lean, 'card_holds'). Laid BY PROGRAM, IN A SANDBOX (cutbox-door.mjs). By AI agents, Wed Nov 11 2026. No macro, syntax, notation, axiom, sorry.
-/
import Derived.Test.YtlaohlcghdbjhaaDoorRows
import GoSem.ClaimSeven
namespace Go.Proofs.YtlaohlcghdbjhaaDoor
namespace Rows

/-- THE TIED CARD OF 'laws.FnVectors'. -/
def fnVectorsCard : Claim7 := { stood := { row := fnVectorsRow, standIns := [], harness := (true, "9cbe8bb4947600c13c4da61b7eec83363581e52bf9fa0e169018e6d5619d1728"), looks := false }, kinds := [], alts := [], laidByText := true, laidKinds := [.data, .data, .data], laidTests := true, laidLooks := .later }
def FnVectorsCardSaid : Prop := Claim7.holds Tryd.pinned (.plain (OpenSpec.ofChange fnVectorsSpec)) fnVectorsCard

/-- THE TIED CARD OF 'laws.FnExactFormatVector'. -/
def fnExactFormatVectorCard : Claim7 := { stood := { row := fnExactFormatVectorRow, standIns := [], harness := (true, "9cbe8bb4947600c13c4da61b7eec83363581e52bf9fa0e169018e6d5619d1728"), looks := false }, kinds := [], alts := [], laidByText := true, laidKinds := [.data, .data, .data], laidTests := true, laidLooks := .later }
def FnExactFormatVectorCardSaid : Prop := Claim7.holds Tryd.pinned (.plain (OpenSpec.ofChange fnExactFormatVectorSpec)) fnExactFormatVectorCard

/-- THE SECOND FORM's CARD OF 'laws.FnVectors'. -/
def fnVectorsUptoCard : Claim7 := { stood := { row := fnVectorsUptoRow, standIns := [], harness := (true, "9cbe8bb4947600c13c4da61b7eec83363581e52bf9fa0e169018e6d5619d1728"), looks := false }, kinds := [], alts := [], laidByText := true, laidKinds := [.data, .data, .data], laidTests := true, laidLooks := .later }
def FnVectorsUptoCardSaid : Prop := Claim7.holds Tryd.pinned (.plain (OpenSpec.upto fnVectorsSpec)) fnVectorsUptoCard

/-- THE SECOND FORM's CARD OF 'laws.FnExactFormatVector'. -/
def fnExactFormatVectorUptoCard : Claim7 := { stood := { row := fnExactFormatVectorUptoRow, standIns := [], harness := (true, "9cbe8bb4947600c13c4da61b7eec83363581e52bf9fa0e169018e6d5619d1728"), looks := false }, kinds := [], alts := [], laidByText := true, laidKinds := [.data, .data, .data], laidTests := true, laidLooks := .later }
def FnExactFormatVectorUptoCardSaid : Prop := Claim7.holds Tryd.pinned (.plain (OpenSpec.upto fnExactFormatVectorSpec)) fnExactFormatVectorUptoCard
end Rows
end Go.Proofs.YtlaohlcghdbjhaaDoor
