/-
  DERIVED. GIVEN WITH THE SEED: THE CARDS: each row of YtamdmhclhjkogaaGreatDoorRows.lean that lists a variable, with what it lists TIED to the program's text (the seventh form; the later family's looks); each row that meets fmt, with fmt's text TOLD by the authors' own Lean function (tested against real Go, not proved from fmt's source: count such statements apart). THE CARD IS WHAT COUNTS. Prove the row's statement (the work); the ties are given (YtamdmhclhjkogaaGreatDoorTie.lean); close each card by the builder's one call (the guide's Derived/Test/ToyasCard.lean, 'card_holds'). Laid BY PROGRAM, IN A SANDBOX (cutbox-door.mjs). By AI agents, Wed Nov 11 2026. No macro, syntax, notation, axiom, sorry.
-/
import Derived.Test.YtamdmhclhjkogaaGreatDoorRows
import GoSem.ClaimSeven
namespace Go.Proofs.YtamdmhclhjkogaaGreatDoor
namespace Rows

/-- THE TIED CARD OF 'laws.FnExactMakePuzzle'. -/
def fnExactMakePuzzleCard : Claim7 := { stood := { row := fnExactMakePuzzleRow, standIns := [], harness := (true, "875c4d9231822c79a010036853904aa80128d4c6e06c0dfd1781a85028ef6836"), looks := false }, kinds := [], alts := [], laidByText := true, laidKinds := [.data, .pinned], laidTests := true, laidLooks := .later }
def FnExactMakePuzzleCardSaid : Prop := Claim7.holds Tryz.pinned (.plain (OpenSpec.ofChange fnExactMakePuzzleSpec)) fnExactMakePuzzleCard

/-- THE TIED CARD OF 'laws.FnExactSolutionOf'. -/
def fnExactSolutionOfCard : Claim7 := { stood := { row := fnExactSolutionOfRow, standIns := [], harness := (true, "875c4d9231822c79a010036853904aa80128d4c6e06c0dfd1781a85028ef6836"), looks := false }, kinds := [], alts := [], laidByText := true, laidKinds := [.data, .pinned], laidTests := true, laidLooks := .later }
def FnExactSolutionOfCardSaid : Prop := Claim7.holds Tryz.pinned (.plain (OpenSpec.ofChange fnExactSolutionOfSpec)) fnExactSolutionOfCard

/-- THE SECOND FORM's CARD OF 'laws.FnExactMakePuzzle'. -/
def fnExactMakePuzzleUptoCard : Claim7 := { stood := { row := fnExactMakePuzzleUptoRow, standIns := [], harness := (true, "875c4d9231822c79a010036853904aa80128d4c6e06c0dfd1781a85028ef6836"), looks := false }, kinds := [], alts := [], laidByText := true, laidKinds := [.data, .pinned], laidTests := true, laidLooks := .later }
def FnExactMakePuzzleUptoCardSaid : Prop := Claim7.holds Tryz.pinned (.plain (OpenSpec.upto fnExactMakePuzzleSpec)) fnExactMakePuzzleUptoCard

/-- THE SECOND FORM's CARD OF 'laws.FnExactSolutionOf'. -/
def fnExactSolutionOfUptoCard : Claim7 := { stood := { row := fnExactSolutionOfUptoRow, standIns := [], harness := (true, "875c4d9231822c79a010036853904aa80128d4c6e06c0dfd1781a85028ef6836"), looks := false }, kinds := [], alts := [], laidByText := true, laidKinds := [.data, .pinned], laidTests := true, laidLooks := .later }
def FnExactSolutionOfUptoCardSaid : Prop := Claim7.holds Tryz.pinned (.plain (OpenSpec.upto fnExactSolutionOfSpec)) fnExactSolutionOfUptoCard
end Rows
end Go.Proofs.YtamdmhclhjkogaaGreatDoor
