/-
  DERIVED. GIVEN WITH THE SEED: THE CARDS: each row of YtoadoeahbekkoaaGreatDoorRows.lean that lists a variable, with what it lists TIED to the program's text (the seventh form; the later family's looks); each row that meets fmt, with fmt's text TOLD by the authors' own Lean function (tested against real Go, not proved from fmt's source: count such statements apart). THE CARD IS WHAT COUNTS. Prove the row's statement (the work); the ties are given (YtoadoeahbekkoaaGreatDoorTie.lean); close each card by the builder's one call (the guide's Derived/Test/ToyasCard.lean, 'card_holds'). Laid BY PROGRAM, IN A SANDBOX (cutbox-door.mjs). By AI agents, Wed Nov 11 2026. No macro, syntax, notation, axiom, sorry.
-/
import Derived.Test.YtoadoeahbekkoaaGreatDoorRows
import GoSem.ClaimSeven
namespace Go.Proofs.YtoadoeahbekkoaaGreatDoor
namespace Rows

/-- THE TIED CARD OF 'laws.FnExactCellsOfBall'. -/
def fnExactCellsOfBallCard : Claim7 := { stood := { row := fnExactCellsOfBallRow, standIns := [], harness := (true, "03c561e3c8ace17d0213d3fd1742e1df3d088446bb89d91c68fcd9dca0385ab6"), looks := false }, kinds := [], alts := [], laidByText := true, laidKinds := [.data, .pinned], laidTests := true, laidLooks := .later }
def FnExactCellsOfBallCardSaid : Prop := Claim7.holds Tryz.pinned (.plain (OpenSpec.ofChange fnExactCellsOfBallSpec)) fnExactCellsOfBallCard

/-- THE TIED CARD OF 'laws.FnExactFarthestOf'. -/
def fnExactFarthestOfCard : Claim7 := { stood := { row := fnExactFarthestOfRow, standIns := [], harness := (true, "03c561e3c8ace17d0213d3fd1742e1df3d088446bb89d91c68fcd9dca0385ab6"), looks := false }, kinds := [], alts := [], laidByText := true, laidKinds := [.data, .pinned], laidTests := true, laidLooks := .later }
def FnExactFarthestOfCardSaid : Prop := Claim7.holds Tryz.pinned (.plain (OpenSpec.ofChange fnExactFarthestOfSpec)) fnExactFarthestOfCard

/-- THE TIED CARD OF 'laws.FnExactClassesReached'. -/
def fnExactClassesReachedCard : Claim7 := { stood := { row := fnExactClassesReachedRow, standIns := [], harness := (true, "03c561e3c8ace17d0213d3fd1742e1df3d088446bb89d91c68fcd9dca0385ab6"), looks := false }, kinds := [], alts := [], laidByText := true, laidKinds := [.data, .pinned], laidTests := true, laidLooks := .later }
def FnExactClassesReachedCardSaid : Prop := Claim7.holds Tryz.pinned (.plain (OpenSpec.ofChange fnExactClassesReachedSpec)) fnExactClassesReachedCard

/-- THE SECOND FORM's CARD OF 'laws.FnExactCellsOfBall'. -/
def fnExactCellsOfBallUptoCard : Claim7 := { stood := { row := fnExactCellsOfBallUptoRow, standIns := [], harness := (true, "03c561e3c8ace17d0213d3fd1742e1df3d088446bb89d91c68fcd9dca0385ab6"), looks := false }, kinds := [], alts := [], laidByText := true, laidKinds := [.data, .pinned], laidTests := true, laidLooks := .later }
def FnExactCellsOfBallUptoCardSaid : Prop := Claim7.holds Tryz.pinned (.plain (OpenSpec.upto fnExactCellsOfBallSpec)) fnExactCellsOfBallUptoCard

/-- THE SECOND FORM's CARD OF 'laws.FnExactFarthestOf'. -/
def fnExactFarthestOfUptoCard : Claim7 := { stood := { row := fnExactFarthestOfUptoRow, standIns := [], harness := (true, "03c561e3c8ace17d0213d3fd1742e1df3d088446bb89d91c68fcd9dca0385ab6"), looks := false }, kinds := [], alts := [], laidByText := true, laidKinds := [.data, .pinned], laidTests := true, laidLooks := .later }
def FnExactFarthestOfUptoCardSaid : Prop := Claim7.holds Tryz.pinned (.plain (OpenSpec.upto fnExactFarthestOfSpec)) fnExactFarthestOfUptoCard

/-- THE SECOND FORM's CARD OF 'laws.FnExactClassesReached'. -/
def fnExactClassesReachedUptoCard : Claim7 := { stood := { row := fnExactClassesReachedUptoRow, standIns := [], harness := (true, "03c561e3c8ace17d0213d3fd1742e1df3d088446bb89d91c68fcd9dca0385ab6"), looks := false }, kinds := [], alts := [], laidByText := true, laidKinds := [.data, .pinned], laidTests := true, laidLooks := .later }
def FnExactClassesReachedUptoCardSaid : Prop := Claim7.holds Tryz.pinned (.plain (OpenSpec.upto fnExactClassesReachedSpec)) fnExactClassesReachedUptoCard
end Rows
end Go.Proofs.YtoadoeahbekkoaaGreatDoor
