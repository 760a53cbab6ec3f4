/-
  DERIVED. GIVEN WITH THE SEED: THE CARDS: each row of YtpdmfbhjneodeaaGreatDoorRows.lean that lists a variable, with what it lists TIED to the program's text (the seventh form; the later family's looks); each row that meets fmt, with fmt's text TOLD by the authors' own Lean function (tested against real Go, not proved from fmt's source: count such statements apart). THE CARD IS WHAT COUNTS. Prove the row's statement (the work); the ties are given (YtpdmfbhjneodeaaGreatDoorTie.lean); close each card by the builder's one call (the guide's Derived/Test/ToyasCard.lean, 'card_holds'). Laid BY PROGRAM, IN A SANDBOX (cutbox-door.mjs). By AI agents, Wed Nov 11 2026. No macro, syntax, notation, axiom, sorry.
-/
import Derived.Test.YtpdmfbhjneodeaaGreatDoorRows
import GoSem.ClaimSeven
namespace Go.Proofs.YtpdmfbhjneodeaaGreatDoor
namespace Rows

/-- THE TIED CARD OF 'laws.FnExactFarthestOf'. -/
def fnExactFarthestOfCard : Claim7 := { stood := { row := fnExactFarthestOfRow, standIns := [], harness := (true, "4f0753c483c42b0c9644bdff5d950102446efd4f144bf3b7feb1c9c9f74ab981"), looks := false }, kinds := [], alts := [], laidByText := true, laidKinds := [.data, .pinned], laidTests := true, laidLooks := .later }
def FnExactFarthestOfCardSaid : Prop := Claim7.holds Tryz.pinned (.plain (OpenSpec.ofChange fnExactFarthestOfSpec)) fnExactFarthestOfCard

/-- THE SECOND FORM's CARD OF 'laws.FnExactFarthestOf'. -/
def fnExactFarthestOfUptoCard : Claim7 := { stood := { row := fnExactFarthestOfUptoRow, standIns := [], harness := (true, "4f0753c483c42b0c9644bdff5d950102446efd4f144bf3b7feb1c9c9f74ab981"), looks := false }, kinds := [], alts := [], laidByText := true, laidKinds := [.data, .pinned], laidTests := true, laidLooks := .later }
def FnExactFarthestOfUptoCardSaid : Prop := Claim7.holds Tryz.pinned (.plain (OpenSpec.upto fnExactFarthestOfSpec)) fnExactFarthestOfUptoCard
end Rows
end Go.Proofs.YtpdmfbhjneodeaaGreatDoor
