/-
  DERIVED. GIVEN WITH THE SEED: THE CARDS: each row of YtoadoeahbekkoaaDoorRows.lean that lists a variable, with what it lists TIED to the program's text (the seventh form; the later family's looks); each row that meets fmt, with fmt's text TOLD by the authors' own Lean function (tested against real Go, not proved from fmt's source: count such statements apart). THE CARD IS WHAT COUNTS. Prove the row's statement (the work); the ties are given (YtoadoeahbekkoaaDoorTie.lean); close each card by the builder's one call (the guide's Derived/Test/ToyasCard.lean, 'card_holds'). Laid BY PROGRAM, IN A SANDBOX (cutbox-door.mjs). By AI agents, Wed Nov 11 2026. No macro, syntax, notation, axiom, sorry.
-/
import Derived.Test.YtoadoeahbekkoaaDoorRows
import GoSem.ClaimSeven
namespace Go.Proofs.YtoadoeahbekkoaaDoor
namespace Rows

/-- THE TIED CARD OF 'laws.FnExactShortestWord'. -/
def fnExactShortestWordCard : Claim7 := { stood := { row := fnExactShortestWordRow, standIns := [], harness := (true, "68da93c800b54fd6dc42c119f3226e5707ef383df8c544f43f3d5b2f0c3d3226"), looks := true }, kinds := [], alts := [], laidByText := true, laidKinds := [.data, .pinned], laidTests := true, laidLooks := .later }
def FnExactShortestWordCardSaid : Prop := Claim7.holds Tryd.pinned (.plain (OpenSpec.ofChange fnExactShortestWordSpec)) fnExactShortestWordCard

/-- THE TIED CARD OF 'laws.FnExactWordToCell'. -/
def fnExactWordToCellCard : Claim7 := { stood := { row := fnExactWordToCellRow, standIns := [], harness := (true, "68da93c800b54fd6dc42c119f3226e5707ef383df8c544f43f3d5b2f0c3d3226"), looks := true }, kinds := [], alts := [], laidByText := true, laidKinds := [.data, .pinned], laidTests := true, laidLooks := .later }
def FnExactWordToCellCardSaid : Prop := Claim7.holds Tryd.pinned (.plain (OpenSpec.ofChange fnExactWordToCellSpec)) fnExactWordToCellCard

/-- THE TIED CARD OF 'laws.FnExactPeriodOfWord'. -/
def fnExactPeriodOfWordCard : Claim7 := { stood := { row := fnExactPeriodOfWordRow, standIns := [], harness := (true, "68da93c800b54fd6dc42c119f3226e5707ef383df8c544f43f3d5b2f0c3d3226"), looks := true }, kinds := [], alts := [], laidByText := true, laidKinds := [.data, .pinned], laidTests := true, laidLooks := .later }
def FnExactPeriodOfWordCardSaid : Prop := Claim7.holds Tryd.pinned (.plain (OpenSpec.ofChange fnExactPeriodOfWordSpec)) fnExactPeriodOfWordCard

/-- THE TIED CARD OF 'laws.FnExactStepsOfTilt'. -/
def fnExactStepsOfTiltCard : Claim7 := { stood := { row := fnExactStepsOfTiltRow, standIns := [], harness := (true, "68da93c800b54fd6dc42c119f3226e5707ef383df8c544f43f3d5b2f0c3d3226"), looks := true }, kinds := [], alts := [], laidByText := true, laidKinds := [.data, .pinned], laidTests := true, laidLooks := .later }
def FnExactStepsOfTiltCardSaid : Prop := Claim7.holds Tryd.pinned (.plain (OpenSpec.ofChange fnExactStepsOfTiltSpec)) fnExactStepsOfTiltCard

/-- THE TIED CARD OF 'laws.FnExactCropTray'. -/
def fnExactCropTrayCard : Claim7 := { stood := { row := fnExactCropTrayRow, standIns := [], harness := (true, "68da93c800b54fd6dc42c119f3226e5707ef383df8c544f43f3d5b2f0c3d3226"), looks := true }, kinds := [], alts := [], laidByText := true, laidKinds := [.data, .pinned], laidTests := true, laidLooks := .later }
def FnExactCropTrayCardSaid : Prop := Claim7.holds Tryd.pinned (.plain (OpenSpec.ofChange fnExactCropTraySpec)) fnExactCropTrayCard

/-- THE TIED CARD OF 'laws.FnExactPartsOf'. -/
def fnExactPartsOfCard : Claim7 := { stood := { row := fnExactPartsOfRow, standIns := [], harness := (true, "68da93c800b54fd6dc42c119f3226e5707ef383df8c544f43f3d5b2f0c3d3226"), looks := true }, kinds := [], alts := [], laidByText := true, laidKinds := [.data, .pinned], laidTests := true, laidLooks := .later }
def FnExactPartsOfCardSaid : Prop := Claim7.holds Tryd.pinned (.plain (OpenSpec.ofChange fnExactPartsOfSpec)) fnExactPartsOfCard

/-- THE TIED CARD OF 'laws.FnExactWayBetween'. -/
def fnExactWayBetweenCard : Claim7 := { stood := { row := fnExactWayBetweenRow, standIns := [], harness := (true, "68da93c800b54fd6dc42c119f3226e5707ef383df8c544f43f3d5b2f0c3d3226"), looks := true }, kinds := [], alts := [], laidByText := true, laidKinds := [.data, .pinned], laidTests := true, laidLooks := .later }
def FnExactWayBetweenCardSaid : Prop := Claim7.holds Tryd.pinned (.plain (OpenSpec.ofChange fnExactWayBetweenSpec)) fnExactWayBetweenCard

/-- THE TIED CARD OF 'laws.FnExactBoardText'. -/
def fnExactBoardTextCard : Claim7 := { stood := { row := fnExactBoardTextRow, standIns := [], harness := (true, "68da93c800b54fd6dc42c119f3226e5707ef383df8c544f43f3d5b2f0c3d3226"), looks := true }, kinds := [], alts := [], laidByText := true, laidKinds := [.data, .data, .data], laidTests := true, laidLooks := .later }
def FnExactBoardTextCardSaid : Prop := Claim7.holds Tryd.pinned (.plain (OpenSpec.ofChange fnExactBoardTextSpec)) fnExactBoardTextCard

/-- THE TIED CARD OF 'laws.FnExactParseBoard'. -/
def fnExactParseBoardCard : Claim7 := { stood := { row := fnExactParseBoardRow, standIns := [], harness := (true, "68da93c800b54fd6dc42c119f3226e5707ef383df8c544f43f3d5b2f0c3d3226"), looks := true }, kinds := [], alts := [], laidByText := true, laidKinds := [.data, .data, .data, .data, .sentinel, .sentinel, .pinned], laidTests := true, laidLooks := .later }
def FnExactParseBoardCardSaid : Prop := Claim7.holds Tryd.pinned (.plain (OpenSpec.ofChange fnExactParseBoardSpec)) fnExactParseBoardCard

/-- THE SECOND FORM's CARD OF 'laws.FnExactShortestWord'. -/
def fnExactShortestWordUptoCard : Claim7 := { stood := { row := fnExactShortestWordUptoRow, standIns := [], harness := (true, "68da93c800b54fd6dc42c119f3226e5707ef383df8c544f43f3d5b2f0c3d3226"), looks := true }, kinds := [], alts := [], laidByText := true, laidKinds := [.data, .pinned], laidTests := true, laidLooks := .later }
def FnExactShortestWordUptoCardSaid : Prop := Claim7.holds Tryd.pinned (.plain (OpenSpec.upto fnExactShortestWordSpec)) fnExactShortestWordUptoCard

/-- THE SECOND FORM's CARD OF 'laws.FnExactWordToCell'. -/
def fnExactWordToCellUptoCard : Claim7 := { stood := { row := fnExactWordToCellUptoRow, standIns := [], harness := (true, "68da93c800b54fd6dc42c119f3226e5707ef383df8c544f43f3d5b2f0c3d3226"), looks := true }, kinds := [], alts := [], laidByText := true, laidKinds := [.data, .pinned], laidTests := true, laidLooks := .later }
def FnExactWordToCellUptoCardSaid : Prop := Claim7.holds Tryd.pinned (.plain (OpenSpec.upto fnExactWordToCellSpec)) fnExactWordToCellUptoCard

/-- THE SECOND FORM's CARD OF 'laws.FnExactPeriodOfWord'. -/
def fnExactPeriodOfWordUptoCard : Claim7 := { stood := { row := fnExactPeriodOfWordUptoRow, standIns := [], harness := (true, "68da93c800b54fd6dc42c119f3226e5707ef383df8c544f43f3d5b2f0c3d3226"), looks := true }, kinds := [], alts := [], laidByText := true, laidKinds := [.data, .pinned], laidTests := true, laidLooks := .later }
def FnExactPeriodOfWordUptoCardSaid : Prop := Claim7.holds Tryd.pinned (.plain (OpenSpec.upto fnExactPeriodOfWordSpec)) fnExactPeriodOfWordUptoCard

/-- THE SECOND FORM's CARD OF 'laws.FnExactStepsOfTilt'. -/
def fnExactStepsOfTiltUptoCard : Claim7 := { stood := { row := fnExactStepsOfTiltUptoRow, standIns := [], harness := (true, "68da93c800b54fd6dc42c119f3226e5707ef383df8c544f43f3d5b2f0c3d3226"), looks := true }, kinds := [], alts := [], laidByText := true, laidKinds := [.data, .pinned], laidTests := true, laidLooks := .later }
def FnExactStepsOfTiltUptoCardSaid : Prop := Claim7.holds Tryd.pinned (.plain (OpenSpec.upto fnExactStepsOfTiltSpec)) fnExactStepsOfTiltUptoCard

/-- THE SECOND FORM's CARD OF 'laws.FnExactCropTray'. -/
def fnExactCropTrayUptoCard : Claim7 := { stood := { row := fnExactCropTrayUptoRow, standIns := [], harness := (true, "68da93c800b54fd6dc42c119f3226e5707ef383df8c544f43f3d5b2f0c3d3226"), looks := true }, kinds := [], alts := [], laidByText := true, laidKinds := [.data, .pinned], laidTests := true, laidLooks := .later }
def FnExactCropTrayUptoCardSaid : Prop := Claim7.holds Tryd.pinned (.plain (OpenSpec.upto fnExactCropTraySpec)) fnExactCropTrayUptoCard

/-- THE SECOND FORM's CARD OF 'laws.FnExactPartsOf'. -/
def fnExactPartsOfUptoCard : Claim7 := { stood := { row := fnExactPartsOfUptoRow, standIns := [], harness := (true, "68da93c800b54fd6dc42c119f3226e5707ef383df8c544f43f3d5b2f0c3d3226"), looks := true }, kinds := [], alts := [], laidByText := true, laidKinds := [.data, .pinned], laidTests := true, laidLooks := .later }
def FnExactPartsOfUptoCardSaid : Prop := Claim7.holds Tryd.pinned (.plain (OpenSpec.upto fnExactPartsOfSpec)) fnExactPartsOfUptoCard

/-- THE SECOND FORM's CARD OF 'laws.FnExactWayBetween'. -/
def fnExactWayBetweenUptoCard : Claim7 := { stood := { row := fnExactWayBetweenUptoRow, standIns := [], harness := (true, "68da93c800b54fd6dc42c119f3226e5707ef383df8c544f43f3d5b2f0c3d3226"), looks := true }, kinds := [], alts := [], laidByText := true, laidKinds := [.data, .pinned], laidTests := true, laidLooks := .later }
def FnExactWayBetweenUptoCardSaid : Prop := Claim7.holds Tryd.pinned (.plain (OpenSpec.upto fnExactWayBetweenSpec)) fnExactWayBetweenUptoCard

/-- THE SECOND FORM's CARD OF 'laws.FnExactBoardText'. -/
def fnExactBoardTextUptoCard : Claim7 := { stood := { row := fnExactBoardTextUptoRow, standIns := [], harness := (true, "68da93c800b54fd6dc42c119f3226e5707ef383df8c544f43f3d5b2f0c3d3226"), looks := true }, kinds := [], alts := [], laidByText := true, laidKinds := [.data, .data, .data], laidTests := true, laidLooks := .later }
def FnExactBoardTextUptoCardSaid : Prop := Claim7.holds Tryd.pinned (.plain (OpenSpec.upto fnExactBoardTextSpec)) fnExactBoardTextUptoCard

/-- THE SECOND FORM's CARD OF 'laws.FnExactParseBoard'. -/
def fnExactParseBoardUptoCard : Claim7 := { stood := { row := fnExactParseBoardUptoRow, standIns := [], harness := (true, "68da93c800b54fd6dc42c119f3226e5707ef383df8c544f43f3d5b2f0c3d3226"), looks := true }, kinds := [], alts := [], laidByText := true, laidKinds := [.data, .data, .data, .data, .sentinel, .sentinel, .pinned], laidTests := true, laidLooks := .later }
def FnExactParseBoardUptoCardSaid : Prop := Claim7.holds Tryd.pinned (.plain (OpenSpec.upto fnExactParseBoardSpec)) fnExactParseBoardUptoCard
end Rows
end Go.Proofs.YtoadoeahbekkoaaDoor
