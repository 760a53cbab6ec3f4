/-
  DERIVED. GIVEN WITH THE SEED: THE CARDS: each row of YtppjlcmfmbpkjaaDoorRows.lean that lists a variable, with what it lists TIED to the program's text (the seventh form; the later family's looks); each row that meets fmt, with fmt's text TOLD by the authors' own Lean function (tested against real Go, not proved from fmt's source: count such statements apart). THE CARD IS WHAT COUNTS. Prove the row's statement (the work); the ties are given (YtppjlcmfmbpkjaaDoorTie.lean); close each card by the builder's one call (the guide's Derived/Test/ToyasCard.lean, 'card_holds'). Laid BY PROGRAM, IN A SANDBOX (cutbox-door.mjs). By AI agents, Wed Nov 11 2026. No macro, syntax, notation, axiom, sorry.
-/
import Derived.Test.YtppjlcmfmbpkjaaDoorRows
import GoSem.ClaimSeven
namespace Go.Proofs.YtppjlcmfmbpkjaaDoor
namespace Rows

/-- THE TIED CARD OF 'laws.FnExactTiltTray'. -/
def fnExactTiltTrayCard : Claim7 := { stood := { row := fnExactTiltTrayRow, standIns := [], harness := (true, "acd55815caba3c42126defbb9a0f2fb66f7ce3adac04c5a7f8f22efe23f8186a"), looks := false }, kinds := [], alts := [], laidByText := true, laidKinds := [.data, .pinned], laidTests := true, laidLooks := .later }
def FnExactTiltTrayCardSaid : Prop := Claim7.holds Tryd.pinned (.plain (OpenSpec.ofChange fnExactTiltTraySpec)) fnExactTiltTrayCard

/-- THE TIED CARD OF 'laws.FnExactStepTray'. -/
def fnExactStepTrayCard : Claim7 := { stood := { row := fnExactStepTrayRow, standIns := [], harness := (true, "acd55815caba3c42126defbb9a0f2fb66f7ce3adac04c5a7f8f22efe23f8186a"), looks := false }, kinds := [], alts := [], laidByText := true, laidKinds := [.data, .pinned], laidTests := true, laidLooks := .later }
def FnExactStepTrayCardSaid : Prop := Claim7.holds Tryd.pinned (.plain (OpenSpec.ofChange fnExactStepTraySpec)) fnExactStepTrayCard

/-- THE TIED CARD OF 'laws.FnExactStepsOfTilt'. -/
def fnExactStepsOfTiltCard : Claim7 := { stood := { row := fnExactStepsOfTiltRow, standIns := [], harness := (true, "acd55815caba3c42126defbb9a0f2fb66f7ce3adac04c5a7f8f22efe23f8186a"), looks := false }, kinds := [], alts := [], laidByText := true, laidKinds := [.data, .pinned], laidTests := true, laidLooks := .later }
def FnExactStepsOfTiltCardSaid : Prop := Claim7.holds Tryd.pinned (.plain (OpenSpec.ofChange fnExactStepsOfTiltSpec)) fnExactStepsOfTiltCard

/-- THE TIED CARD OF 'laws.FnExactStillWays'. -/
def fnExactStillWaysCard : Claim7 := { stood := { row := fnExactStillWaysRow, standIns := [], harness := (true, "acd55815caba3c42126defbb9a0f2fb66f7ce3adac04c5a7f8f22efe23f8186a"), looks := false }, kinds := [], alts := [], laidByText := true, laidKinds := [.data, .pinned], laidTests := true, laidLooks := .later }
def FnExactStillWaysCardSaid : Prop := Claim7.holds Tryd.pinned (.plain (OpenSpec.ofChange fnExactStillWaysSpec)) fnExactStillWaysCard

/-- THE TIED CARD OF 'laws.FnExactStretchesOf'. -/
def fnExactStretchesOfCard : Claim7 := { stood := { row := fnExactStretchesOfRow, standIns := [], harness := (true, "acd55815caba3c42126defbb9a0f2fb66f7ce3adac04c5a7f8f22efe23f8186a"), looks := false }, kinds := [], alts := [], laidByText := true, laidKinds := [.data, .pinned], laidTests := true, laidLooks := .later }
def FnExactStretchesOfCardSaid : Prop := Claim7.holds Tryd.pinned (.plain (OpenSpec.ofChange fnExactStretchesOfSpec)) fnExactStretchesOfCard

/-- THE TIED CARD OF 'laws.FnExactMovedBalls'. -/
def fnExactMovedBallsCard : Claim7 := { stood := { row := fnExactMovedBallsRow, standIns := [], harness := (true, "acd55815caba3c42126defbb9a0f2fb66f7ce3adac04c5a7f8f22efe23f8186a"), looks := false }, kinds := [], alts := [], laidByText := true, laidKinds := [.data, .pinned], laidTests := true, laidLooks := .later }
def FnExactMovedBallsCardSaid : Prop := Claim7.holds Tryd.pinned (.plain (OpenSpec.ofChange fnExactMovedBallsSpec)) fnExactMovedBallsCard

/-- THE TIED CARD OF 'laws.FnExactMovedCells'. -/
def fnExactMovedCellsCard : Claim7 := { stood := { row := fnExactMovedCellsRow, standIns := [], harness := (true, "acd55815caba3c42126defbb9a0f2fb66f7ce3adac04c5a7f8f22efe23f8186a"), looks := false }, kinds := [], alts := [], laidByText := true, laidKinds := [.data, .pinned], laidTests := true, laidLooks := .later }
def FnExactMovedCellsCardSaid : Prop := Claim7.holds Tryd.pinned (.plain (OpenSpec.ofChange fnExactMovedCellsSpec)) fnExactMovedCellsCard

/-- THE TIED CARD OF 'laws.FnExactCountBefore'. -/
def fnExactCountBeforeCard : Claim7 := { stood := { row := fnExactCountBeforeRow, standIns := [], harness := (true, "acd55815caba3c42126defbb9a0f2fb66f7ce3adac04c5a7f8f22efe23f8186a"), looks := false }, kinds := [], alts := [], laidByText := true, laidKinds := [.data, .pinned], laidTests := true, laidLooks := .later }
def FnExactCountBeforeCardSaid : Prop := Claim7.holds Tryd.pinned (.plain (OpenSpec.ofChange fnExactCountBeforeSpec)) fnExactCountBeforeCard

/-- THE TIED CARD OF 'laws.FnExactPathOfBall'. -/
def fnExactPathOfBallCard : Claim7 := { stood := { row := fnExactPathOfBallRow, standIns := [], harness := (true, "acd55815caba3c42126defbb9a0f2fb66f7ce3adac04c5a7f8f22efe23f8186a"), looks := false }, kinds := [], alts := [], laidByText := true, laidKinds := [.data, .pinned], laidTests := true, laidLooks := .later }
def FnExactPathOfBallCardSaid : Prop := Claim7.holds Tryd.pinned (.plain (OpenSpec.ofChange fnExactPathOfBallSpec)) fnExactPathOfBallCard

/-- THE TIED CARD OF 'laws.FnExactPeriodOfWord'. -/
def fnExactPeriodOfWordCard : Claim7 := { stood := { row := fnExactPeriodOfWordRow, standIns := [], harness := (true, "acd55815caba3c42126defbb9a0f2fb66f7ce3adac04c5a7f8f22efe23f8186a"), looks := false }, kinds := [], alts := [], laidByText := true, laidKinds := [.data, .pinned], laidTests := true, laidLooks := .later }
def FnExactPeriodOfWordCardSaid : Prop := Claim7.holds Tryd.pinned (.plain (OpenSpec.ofChange fnExactPeriodOfWordSpec)) fnExactPeriodOfWordCard

/-- THE TIED CARD OF 'laws.FnExactAreSameWords'. -/
def fnExactAreSameWordsCard : Claim7 := { stood := { row := fnExactAreSameWordsRow, standIns := [], harness := (true, "acd55815caba3c42126defbb9a0f2fb66f7ce3adac04c5a7f8f22efe23f8186a"), looks := false }, kinds := [], alts := [], laidByText := true, laidKinds := [.data, .pinned], laidTests := true, laidLooks := .later }
def FnExactAreSameWordsCardSaid : Prop := Claim7.holds Tryd.pinned (.plain (OpenSpec.ofChange fnExactAreSameWordsSpec)) fnExactAreSameWordsCard

/-- THE SECOND FORM's CARD OF 'laws.FnExactTiltTray'. -/
def fnExactTiltTrayUptoCard : Claim7 := { stood := { row := fnExactTiltTrayUptoRow, standIns := [], harness := (true, "acd55815caba3c42126defbb9a0f2fb66f7ce3adac04c5a7f8f22efe23f8186a"), looks := false }, kinds := [], alts := [], laidByText := true, laidKinds := [.data, .pinned], laidTests := true, laidLooks := .later }
def FnExactTiltTrayUptoCardSaid : Prop := Claim7.holds Tryd.pinned (.plain (OpenSpec.upto fnExactTiltTraySpec)) fnExactTiltTrayUptoCard

/-- THE SECOND FORM's CARD OF 'laws.FnExactStepTray'. -/
def fnExactStepTrayUptoCard : Claim7 := { stood := { row := fnExactStepTrayUptoRow, standIns := [], harness := (true, "acd55815caba3c42126defbb9a0f2fb66f7ce3adac04c5a7f8f22efe23f8186a"), looks := false }, kinds := [], alts := [], laidByText := true, laidKinds := [.data, .pinned], laidTests := true, laidLooks := .later }
def FnExactStepTrayUptoCardSaid : Prop := Claim7.holds Tryd.pinned (.plain (OpenSpec.upto fnExactStepTraySpec)) fnExactStepTrayUptoCard

/-- THE SECOND FORM's CARD OF 'laws.FnExactStepsOfTilt'. -/
def fnExactStepsOfTiltUptoCard : Claim7 := { stood := { row := fnExactStepsOfTiltUptoRow, standIns := [], harness := (true, "acd55815caba3c42126defbb9a0f2fb66f7ce3adac04c5a7f8f22efe23f8186a"), looks := false }, kinds := [], alts := [], laidByText := true, laidKinds := [.data, .pinned], laidTests := true, laidLooks := .later }
def FnExactStepsOfTiltUptoCardSaid : Prop := Claim7.holds Tryd.pinned (.plain (OpenSpec.upto fnExactStepsOfTiltSpec)) fnExactStepsOfTiltUptoCard

/-- THE SECOND FORM's CARD OF 'laws.FnExactStillWays'. -/
def fnExactStillWaysUptoCard : Claim7 := { stood := { row := fnExactStillWaysUptoRow, standIns := [], harness := (true, "acd55815caba3c42126defbb9a0f2fb66f7ce3adac04c5a7f8f22efe23f8186a"), looks := false }, kinds := [], alts := [], laidByText := true, laidKinds := [.data, .pinned], laidTests := true, laidLooks := .later }
def FnExactStillWaysUptoCardSaid : Prop := Claim7.holds Tryd.pinned (.plain (OpenSpec.upto fnExactStillWaysSpec)) fnExactStillWaysUptoCard

/-- THE SECOND FORM's CARD OF 'laws.FnExactStretchesOf'. -/
def fnExactStretchesOfUptoCard : Claim7 := { stood := { row := fnExactStretchesOfUptoRow, standIns := [], harness := (true, "acd55815caba3c42126defbb9a0f2fb66f7ce3adac04c5a7f8f22efe23f8186a"), looks := false }, kinds := [], alts := [], laidByText := true, laidKinds := [.data, .pinned], laidTests := true, laidLooks := .later }
def FnExactStretchesOfUptoCardSaid : Prop := Claim7.holds Tryd.pinned (.plain (OpenSpec.upto fnExactStretchesOfSpec)) fnExactStretchesOfUptoCard

/-- THE SECOND FORM's CARD OF 'laws.FnExactMovedBalls'. -/
def fnExactMovedBallsUptoCard : Claim7 := { stood := { row := fnExactMovedBallsUptoRow, standIns := [], harness := (true, "acd55815caba3c42126defbb9a0f2fb66f7ce3adac04c5a7f8f22efe23f8186a"), looks := false }, kinds := [], alts := [], laidByText := true, laidKinds := [.data, .pinned], laidTests := true, laidLooks := .later }
def FnExactMovedBallsUptoCardSaid : Prop := Claim7.holds Tryd.pinned (.plain (OpenSpec.upto fnExactMovedBallsSpec)) fnExactMovedBallsUptoCard

/-- THE SECOND FORM's CARD OF 'laws.FnExactMovedCells'. -/
def fnExactMovedCellsUptoCard : Claim7 := { stood := { row := fnExactMovedCellsUptoRow, standIns := [], harness := (true, "acd55815caba3c42126defbb9a0f2fb66f7ce3adac04c5a7f8f22efe23f8186a"), looks := false }, kinds := [], alts := [], laidByText := true, laidKinds := [.data, .pinned], laidTests := true, laidLooks := .later }
def FnExactMovedCellsUptoCardSaid : Prop := Claim7.holds Tryd.pinned (.plain (OpenSpec.upto fnExactMovedCellsSpec)) fnExactMovedCellsUptoCard

/-- THE SECOND FORM's CARD OF 'laws.FnExactCountBefore'. -/
def fnExactCountBeforeUptoCard : Claim7 := { stood := { row := fnExactCountBeforeUptoRow, standIns := [], harness := (true, "acd55815caba3c42126defbb9a0f2fb66f7ce3adac04c5a7f8f22efe23f8186a"), looks := false }, kinds := [], alts := [], laidByText := true, laidKinds := [.data, .pinned], laidTests := true, laidLooks := .later }
def FnExactCountBeforeUptoCardSaid : Prop := Claim7.holds Tryd.pinned (.plain (OpenSpec.upto fnExactCountBeforeSpec)) fnExactCountBeforeUptoCard

/-- THE SECOND FORM's CARD OF 'laws.FnExactPathOfBall'. -/
def fnExactPathOfBallUptoCard : Claim7 := { stood := { row := fnExactPathOfBallUptoRow, standIns := [], harness := (true, "acd55815caba3c42126defbb9a0f2fb66f7ce3adac04c5a7f8f22efe23f8186a"), looks := false }, kinds := [], alts := [], laidByText := true, laidKinds := [.data, .pinned], laidTests := true, laidLooks := .later }
def FnExactPathOfBallUptoCardSaid : Prop := Claim7.holds Tryd.pinned (.plain (OpenSpec.upto fnExactPathOfBallSpec)) fnExactPathOfBallUptoCard

/-- THE SECOND FORM's CARD OF 'laws.FnExactPeriodOfWord'. -/
def fnExactPeriodOfWordUptoCard : Claim7 := { stood := { row := fnExactPeriodOfWordUptoRow, standIns := [], harness := (true, "acd55815caba3c42126defbb9a0f2fb66f7ce3adac04c5a7f8f22efe23f8186a"), looks := false }, kinds := [], alts := [], laidByText := true, laidKinds := [.data, .pinned], laidTests := true, laidLooks := .later }
def FnExactPeriodOfWordUptoCardSaid : Prop := Claim7.holds Tryd.pinned (.plain (OpenSpec.upto fnExactPeriodOfWordSpec)) fnExactPeriodOfWordUptoCard

/-- THE SECOND FORM's CARD OF 'laws.FnExactAreSameWords'. -/
def fnExactAreSameWordsUptoCard : Claim7 := { stood := { row := fnExactAreSameWordsUptoRow, standIns := [], harness := (true, "acd55815caba3c42126defbb9a0f2fb66f7ce3adac04c5a7f8f22efe23f8186a"), looks := false }, kinds := [], alts := [], laidByText := true, laidKinds := [.data, .pinned], laidTests := true, laidLooks := .later }
def FnExactAreSameWordsUptoCardSaid : Prop := Claim7.holds Tryd.pinned (.plain (OpenSpec.upto fnExactAreSameWordsSpec)) fnExactAreSameWordsUptoCard
end Rows
end Go.Proofs.YtppjlcmfmbpkjaaDoor
