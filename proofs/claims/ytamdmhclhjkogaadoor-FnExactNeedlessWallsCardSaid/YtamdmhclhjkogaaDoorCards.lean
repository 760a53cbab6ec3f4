/-
  DERIVED. GIVEN WITH THE SEED: THE CARDS: each row of YtamdmhclhjkogaaDoorRows.lean that lists a variable, with what it lists TIED to the program's text (the seventh form; the later family's looks); each row that meets fmt, with fmt's text TOLD by the authors' own Lean function (tested against real Go, not proved from fmt's source: count such statements apart). THE CARD IS WHAT COUNTS. Prove the row's statement (the work); the ties are given (YtamdmhclhjkogaaDoorTie.lean); close each card by the builder's one call (the guide's Derived/Test/ToyasCard.lean, 'card_holds'). Laid BY PROGRAM, IN A SANDBOX (cutbox-door.mjs). By AI agents, Wed Nov 11 2026. No macro, syntax, notation, axiom, sorry.
-/
import Derived.Test.YtamdmhclhjkogaaDoorRows
import GoSem.ClaimSeven
namespace Go.Proofs.YtamdmhclhjkogaaDoor
namespace Rows

/-- THE TIED CARD OF 'laws.FnExactIsPuzzle'. -/
def fnExactIsPuzzleCard : Claim7 := { stood := { row := fnExactIsPuzzleRow, standIns := [], harness := (true, "f227a04f1d4bfd025385ec3eff1237758ded348d6d0e65fdd1d67fcfd154d5cf"), looks := true }, kinds := [], alts := [], laidByText := true, laidKinds := [.data, .pinned], laidTests := true, laidLooks := .later }
def FnExactIsPuzzleCardSaid : Prop := Claim7.holds Tryd.pinned (.plain (OpenSpec.ofChange fnExactIsPuzzleSpec)) fnExactIsPuzzleCard

/-- THE TIED CARD OF 'laws.FnExactTurnPuzzle'. -/
def fnExactTurnPuzzleCard : Claim7 := { stood := { row := fnExactTurnPuzzleRow, standIns := [], harness := (true, "f227a04f1d4bfd025385ec3eff1237758ded348d6d0e65fdd1d67fcfd154d5cf"), looks := true }, kinds := [], alts := [], laidByText := true, laidKinds := [.data, .pinned], laidTests := true, laidLooks := .later }
def FnExactTurnPuzzleCardSaid : Prop := Claim7.holds Tryd.pinned (.plain (OpenSpec.ofChange fnExactTurnPuzzleSpec)) fnExactTurnPuzzleCard

/-- THE TIED CARD OF 'laws.FnExactPuzzleText'. -/
def fnExactPuzzleTextCard : Claim7 := { stood := { row := fnExactPuzzleTextRow, standIns := [], harness := (true, "f227a04f1d4bfd025385ec3eff1237758ded348d6d0e65fdd1d67fcfd154d5cf"), looks := true }, kinds := [], alts := [], laidByText := true, laidKinds := [.data, .data, .data, .data, .pinned], laidTests := true, laidLooks := .later }
def FnExactPuzzleTextCardSaid : Prop := Claim7.holds Tryd.pinned (.plain (OpenSpec.ofChange fnExactPuzzleTextSpec)) fnExactPuzzleTextCard

/-- THE TIED CARD OF 'laws.FnExactParsePuzzle'. -/
def fnExactParsePuzzleCard : Claim7 := { stood := { row := fnExactParsePuzzleRow, standIns := [], harness := (true, "f227a04f1d4bfd025385ec3eff1237758ded348d6d0e65fdd1d67fcfd154d5cf"), looks := true }, kinds := [], alts := [], laidByText := true, laidKinds := [.data, .data, .data, .data, .sentinel, .sentinel, .pinned], laidTests := true, laidLooks := .later }
def FnExactParsePuzzleCardSaid : Prop := Claim7.holds Tryd.pinned (.plain (OpenSpec.ofChange fnExactParsePuzzleSpec)) fnExactParsePuzzleCard

/-- THE TIED CARD OF 'laws.FnExactLengthOf'. -/
def fnExactLengthOfCard : Claim7 := { stood := { row := fnExactLengthOfRow, standIns := [], harness := (true, "f227a04f1d4bfd025385ec3eff1237758ded348d6d0e65fdd1d67fcfd154d5cf"), looks := true }, kinds := [], alts := [], laidByText := true, laidKinds := [.data, .pinned], laidTests := true, laidLooks := .later }
def FnExactLengthOfCardSaid : Prop := Claim7.holds Tryd.pinned (.plain (OpenSpec.ofChange fnExactLengthOfSpec)) fnExactLengthOfCard

/-- THE TIED CARD OF 'laws.FnExactCountSolutions'. -/
def fnExactCountSolutionsCard : Claim7 := { stood := { row := fnExactCountSolutionsRow, standIns := [], harness := (true, "f227a04f1d4bfd025385ec3eff1237758ded348d6d0e65fdd1d67fcfd154d5cf"), looks := true }, kinds := [], alts := [], laidByText := true, laidKinds := [.data, .pinned], laidTests := true, laidLooks := .later }
def FnExactCountSolutionsCardSaid : Prop := Claim7.holds Tryd.pinned (.plain (OpenSpec.ofChange fnExactCountSolutionsSpec)) fnExactCountSolutionsCard

/-- THE TIED CARD OF 'laws.FnExactHardestGoal'. -/
def fnExactHardestGoalCard : Claim7 := { stood := { row := fnExactHardestGoalRow, standIns := [], harness := (true, "f227a04f1d4bfd025385ec3eff1237758ded348d6d0e65fdd1d67fcfd154d5cf"), looks := true }, kinds := [], alts := [], laidByText := true, laidKinds := [.data, .pinned], laidTests := true, laidLooks := .later }
def FnExactHardestGoalCardSaid : Prop := Claim7.holds Tryd.pinned (.plain (OpenSpec.ofChange fnExactHardestGoalSpec)) fnExactHardestGoalCard

/-- THE TIED CARD OF 'laws.FnExactNeedlessWalls'. -/
def fnExactNeedlessWallsCard : Claim7 := { stood := { row := fnExactNeedlessWallsRow, standIns := [], harness := (true, "f227a04f1d4bfd025385ec3eff1237758ded348d6d0e65fdd1d67fcfd154d5cf"), looks := true }, kinds := [], alts := [], laidByText := true, laidKinds := [.data, .pinned], laidTests := true, laidLooks := .later }
def FnExactNeedlessWallsCardSaid : Prop := Claim7.holds Tryd.pinned (.plain (OpenSpec.ofChange fnExactNeedlessWallsSpec)) fnExactNeedlessWallsCard

/-- THE TIED CARD OF 'laws.FnExactShortestWord'. -/
def fnExactShortestWordCard : Claim7 := { stood := { row := fnExactShortestWordRow, standIns := [], harness := (true, "f227a04f1d4bfd025385ec3eff1237758ded348d6d0e65fdd1d67fcfd154d5cf"), looks := true }, kinds := [], alts := [], laidByText := true, laidKinds := [.data, .pinned], laidTests := true, laidLooks := .later }
def FnExactShortestWordCardSaid : Prop := Claim7.holds Tryd.pinned (.plain (OpenSpec.ofChange fnExactShortestWordSpec)) fnExactShortestWordCard

/-- THE TIED CARD OF 'laws.FnExactWordToCell'. -/
def fnExactWordToCellCard : Claim7 := { stood := { row := fnExactWordToCellRow, standIns := [], harness := (true, "f227a04f1d4bfd025385ec3eff1237758ded348d6d0e65fdd1d67fcfd154d5cf"), looks := true }, kinds := [], alts := [], laidByText := true, laidKinds := [.data, .pinned], laidTests := true, laidLooks := .later }
def FnExactWordToCellCardSaid : Prop := Claim7.holds Tryd.pinned (.plain (OpenSpec.ofChange fnExactWordToCellSpec)) fnExactWordToCellCard

/-- THE SECOND FORM's CARD OF 'laws.FnExactIsPuzzle'. -/
def fnExactIsPuzzleUptoCard : Claim7 := { stood := { row := fnExactIsPuzzleUptoRow, standIns := [], harness := (true, "f227a04f1d4bfd025385ec3eff1237758ded348d6d0e65fdd1d67fcfd154d5cf"), looks := true }, kinds := [], alts := [], laidByText := true, laidKinds := [.data, .pinned], laidTests := true, laidLooks := .later }
def FnExactIsPuzzleUptoCardSaid : Prop := Claim7.holds Tryd.pinned (.plain (OpenSpec.upto fnExactIsPuzzleSpec)) fnExactIsPuzzleUptoCard

/-- THE SECOND FORM's CARD OF 'laws.FnExactTurnPuzzle'. -/
def fnExactTurnPuzzleUptoCard : Claim7 := { stood := { row := fnExactTurnPuzzleUptoRow, standIns := [], harness := (true, "f227a04f1d4bfd025385ec3eff1237758ded348d6d0e65fdd1d67fcfd154d5cf"), looks := true }, kinds := [], alts := [], laidByText := true, laidKinds := [.data, .pinned], laidTests := true, laidLooks := .later }
def FnExactTurnPuzzleUptoCardSaid : Prop := Claim7.holds Tryd.pinned (.plain (OpenSpec.upto fnExactTurnPuzzleSpec)) fnExactTurnPuzzleUptoCard

/-- THE SECOND FORM's CARD OF 'laws.FnExactPuzzleText'. -/
def fnExactPuzzleTextUptoCard : Claim7 := { stood := { row := fnExactPuzzleTextUptoRow, standIns := [], harness := (true, "f227a04f1d4bfd025385ec3eff1237758ded348d6d0e65fdd1d67fcfd154d5cf"), looks := true }, kinds := [], alts := [], laidByText := true, laidKinds := [.data, .data, .data, .data, .pinned], laidTests := true, laidLooks := .later }
def FnExactPuzzleTextUptoCardSaid : Prop := Claim7.holds Tryd.pinned (.plain (OpenSpec.upto fnExactPuzzleTextSpec)) fnExactPuzzleTextUptoCard

/-- THE SECOND FORM's CARD OF 'laws.FnExactParsePuzzle'. -/
def fnExactParsePuzzleUptoCard : Claim7 := { stood := { row := fnExactParsePuzzleUptoRow, standIns := [], harness := (true, "f227a04f1d4bfd025385ec3eff1237758ded348d6d0e65fdd1d67fcfd154d5cf"), looks := true }, kinds := [], alts := [], laidByText := true, laidKinds := [.data, .data, .data, .data, .sentinel, .sentinel, .pinned], laidTests := true, laidLooks := .later }
def FnExactParsePuzzleUptoCardSaid : Prop := Claim7.holds Tryd.pinned (.plain (OpenSpec.upto fnExactParsePuzzleSpec)) fnExactParsePuzzleUptoCard

/-- THE SECOND FORM's CARD OF 'laws.FnExactLengthOf'. -/
def fnExactLengthOfUptoCard : Claim7 := { stood := { row := fnExactLengthOfUptoRow, standIns := [], harness := (true, "f227a04f1d4bfd025385ec3eff1237758ded348d6d0e65fdd1d67fcfd154d5cf"), looks := true }, kinds := [], alts := [], laidByText := true, laidKinds := [.data, .pinned], laidTests := true, laidLooks := .later }
def FnExactLengthOfUptoCardSaid : Prop := Claim7.holds Tryd.pinned (.plain (OpenSpec.upto fnExactLengthOfSpec)) fnExactLengthOfUptoCard

/-- THE SECOND FORM's CARD OF 'laws.FnExactCountSolutions'. -/
def fnExactCountSolutionsUptoCard : Claim7 := { stood := { row := fnExactCountSolutionsUptoRow, standIns := [], harness := (true, "f227a04f1d4bfd025385ec3eff1237758ded348d6d0e65fdd1d67fcfd154d5cf"), looks := true }, kinds := [], alts := [], laidByText := true, laidKinds := [.data, .pinned], laidTests := true, laidLooks := .later }
def FnExactCountSolutionsUptoCardSaid : Prop := Claim7.holds Tryd.pinned (.plain (OpenSpec.upto fnExactCountSolutionsSpec)) fnExactCountSolutionsUptoCard

/-- THE SECOND FORM's CARD OF 'laws.FnExactHardestGoal'. -/
def fnExactHardestGoalUptoCard : Claim7 := { stood := { row := fnExactHardestGoalUptoRow, standIns := [], harness := (true, "f227a04f1d4bfd025385ec3eff1237758ded348d6d0e65fdd1d67fcfd154d5cf"), looks := true }, kinds := [], alts := [], laidByText := true, laidKinds := [.data, .pinned], laidTests := true, laidLooks := .later }
def FnExactHardestGoalUptoCardSaid : Prop := Claim7.holds Tryd.pinned (.plain (OpenSpec.upto fnExactHardestGoalSpec)) fnExactHardestGoalUptoCard

/-- THE SECOND FORM's CARD OF 'laws.FnExactNeedlessWalls'. -/
def fnExactNeedlessWallsUptoCard : Claim7 := { stood := { row := fnExactNeedlessWallsUptoRow, standIns := [], harness := (true, "f227a04f1d4bfd025385ec3eff1237758ded348d6d0e65fdd1d67fcfd154d5cf"), looks := true }, kinds := [], alts := [], laidByText := true, laidKinds := [.data, .pinned], laidTests := true, laidLooks := .later }
def FnExactNeedlessWallsUptoCardSaid : Prop := Claim7.holds Tryd.pinned (.plain (OpenSpec.upto fnExactNeedlessWallsSpec)) fnExactNeedlessWallsUptoCard

/-- THE SECOND FORM's CARD OF 'laws.FnExactShortestWord'. -/
def fnExactShortestWordUptoCard : Claim7 := { stood := { row := fnExactShortestWordUptoRow, standIns := [], harness := (true, "f227a04f1d4bfd025385ec3eff1237758ded348d6d0e65fdd1d67fcfd154d5cf"), looks := true }, kinds := [], alts := [], laidByText := true, laidKinds := [.data, .pinned], laidTests := true, laidLooks := .later }
def FnExactShortestWordUptoCardSaid : Prop := Claim7.holds Tryd.pinned (.plain (OpenSpec.upto fnExactShortestWordSpec)) fnExactShortestWordUptoCard

/-- THE SECOND FORM's CARD OF 'laws.FnExactWordToCell'. -/
def fnExactWordToCellUptoCard : Claim7 := { stood := { row := fnExactWordToCellUptoRow, standIns := [], harness := (true, "f227a04f1d4bfd025385ec3eff1237758ded348d6d0e65fdd1d67fcfd154d5cf"), looks := true }, kinds := [], alts := [], laidByText := true, laidKinds := [.data, .pinned], laidTests := true, laidLooks := .later }
def FnExactWordToCellUptoCardSaid : Prop := Claim7.holds Tryd.pinned (.plain (OpenSpec.upto fnExactWordToCellSpec)) fnExactWordToCellUptoCard
end Rows
end Go.Proofs.YtamdmhclhjkogaaDoor
