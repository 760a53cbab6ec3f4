/-
  DERIVED. GIVEN WITH THE SEED: THE CARDS: each row of YtagoipongdnegaaDoorRows.lean that lists a variable, with what it lists TIED to the program's text (the seventh form; the later family's looks); each row that meets fmt, with fmt's text TOLD by the authors' own Lean function (tested against real Go, not proved from fmt's source: count such statements apart). THE CARD IS WHAT COUNTS. Prove the row's statement (the work); the ties are given (YtagoipongdnegaaDoorTie.lean); close each card by the builder's one call (the guide's Derived/Test/ToyasCard.lean, 'card_holds'). Laid BY PROGRAM, IN A SANDBOX (cutbox-door.mjs). By AI agents, Wed Nov 11 2026. No macro, syntax, notation, axiom, sorry.
-/
import Derived.Test.YtagoipongdnegaaDoorRows
import GoSem.ClaimSeven
namespace Go.Proofs.YtagoipongdnegaaDoor
namespace Rows

/-- THE TIED CARD OF 'laws.FnExactShortestWord'. -/
def fnExactShortestWordCard : Claim7 := { stood := { row := fnExactShortestWordRow, standIns := [], harness := (true, "a55e744f43de30cc082874eace490b81d7699e3cb8c176d0318b6834da201f59"), looks := false }, kinds := [], alts := [], laidByText := true, laidKinds := [.data, .pinned], laidTests := true, laidLooks := .later }
def FnExactShortestWordCardSaid : Prop := Claim7.holds Tryd.pinned (.plain (OpenSpec.ofChange fnExactShortestWordSpec)) fnExactShortestWordCard

/-- THE TIED CARD OF 'laws.FnExactWordToCell'. -/
def fnExactWordToCellCard : Claim7 := { stood := { row := fnExactWordToCellRow, standIns := [], harness := (true, "a55e744f43de30cc082874eace490b81d7699e3cb8c176d0318b6834da201f59"), looks := false }, kinds := [], alts := [], laidByText := true, laidKinds := [.data, .pinned], laidTests := true, laidLooks := .later }
def FnExactWordToCellCardSaid : Prop := Claim7.holds Tryd.pinned (.plain (OpenSpec.ofChange fnExactWordToCellSpec)) fnExactWordToCellCard

/-- THE TIED CARD OF 'laws.FnExactBallsOf'. -/
def fnExactBallsOfCard : Claim7 := { stood := { row := fnExactBallsOfRow, standIns := [], harness := (true, "a55e744f43de30cc082874eace490b81d7699e3cb8c176d0318b6834da201f59"), looks := false }, kinds := [], alts := [], laidByText := true, laidKinds := [.data, .pinned], laidTests := true, laidLooks := .later }
def FnExactBallsOfCardSaid : Prop := Claim7.holds Tryd.pinned (.plain (OpenSpec.ofChange fnExactBallsOfSpec)) fnExactBallsOfCard

/-- THE TIED CARD OF 'laws.FnExactPieceAt'. -/
def fnExactPieceAtCard : Claim7 := { stood := { row := fnExactPieceAtRow, standIns := [], harness := (true, "a55e744f43de30cc082874eace490b81d7699e3cb8c176d0318b6834da201f59"), looks := false }, kinds := [], alts := [], laidByText := true, laidKinds := [.data, .pinned], laidTests := true, laidLooks := .later }
def FnExactPieceAtCardSaid : Prop := Claim7.holds Tryd.pinned (.plain (OpenSpec.ofChange fnExactPieceAtSpec)) fnExactPieceAtCard

/-- THE TIED CARD OF 'laws.FnExactShapeOf'. -/
def fnExactShapeOfCard : Claim7 := { stood := { row := fnExactShapeOfRow, standIns := [], harness := (true, "a55e744f43de30cc082874eace490b81d7699e3cb8c176d0318b6834da201f59"), looks := false }, kinds := [], alts := [], laidByText := true, laidKinds := [.data, .pinned], laidTests := true, laidLooks := .later }
def FnExactShapeOfCardSaid : Prop := Claim7.holds Tryd.pinned (.plain (OpenSpec.ofChange fnExactShapeOfSpec)) fnExactShapeOfCard

/-- THE TIED CARD OF 'laws.FnExactIsForm'. -/
def fnExactIsFormCard : Claim7 := { stood := { row := fnExactIsFormRow, standIns := [], harness := (true, "a55e744f43de30cc082874eace490b81d7699e3cb8c176d0318b6834da201f59"), looks := false }, kinds := [], alts := [], laidByText := true, laidKinds := [.data, .pinned], laidTests := true, laidLooks := .later }
def FnExactIsFormCardSaid : Prop := Claim7.holds Tryd.pinned (.plain (OpenSpec.ofChange fnExactIsFormSpec)) fnExactIsFormCard

/-- THE TIED CARD OF 'laws.FnExactCellsOfForm'. -/
def fnExactCellsOfFormCard : Claim7 := { stood := { row := fnExactCellsOfFormRow, standIns := [], harness := (true, "a55e744f43de30cc082874eace490b81d7699e3cb8c176d0318b6834da201f59"), looks := false }, kinds := [], alts := [], laidByText := true, laidKinds := [.data, .pinned], laidTests := true, laidLooks := .later }
def FnExactCellsOfFormCardSaid : Prop := Claim7.holds Tryd.pinned (.plain (OpenSpec.ofChange fnExactCellsOfFormSpec)) fnExactCellsOfFormCard

/-- THE TIED CARD OF 'laws.FnExactFreeWays'. -/
def fnExactFreeWaysCard : Claim7 := { stood := { row := fnExactFreeWaysRow, standIns := [], harness := (true, "a55e744f43de30cc082874eace490b81d7699e3cb8c176d0318b6834da201f59"), looks := false }, kinds := [], alts := [], laidByText := true, laidKinds := [.data, .pinned], laidTests := true, laidLooks := .later }
def FnExactFreeWaysCardSaid : Prop := Claim7.holds Tryd.pinned (.plain (OpenSpec.ofChange fnExactFreeWaysSpec)) fnExactFreeWaysCard

/-- THE TIED CARD OF 'laws.FnExactCanAdd'. -/
def fnExactCanAddCard : Claim7 := { stood := { row := fnExactCanAddRow, standIns := [], harness := (true, "a55e744f43de30cc082874eace490b81d7699e3cb8c176d0318b6834da201f59"), looks := false }, kinds := [], alts := [], laidByText := true, laidKinds := [.data, .pinned], laidTests := true, laidLooks := .later }
def FnExactCanAddCardSaid : Prop := Claim7.holds Tryd.pinned (.plain (OpenSpec.ofChange fnExactCanAddSpec)) fnExactCanAddCard

/-- THE TIED CARD OF 'laws.FnExactAddCell'. -/
def fnExactAddCellCard : Claim7 := { stood := { row := fnExactAddCellRow, standIns := [], harness := (true, "a55e744f43de30cc082874eace490b81d7699e3cb8c176d0318b6834da201f59"), looks := false }, kinds := [], alts := [], laidByText := true, laidKinds := [.data, .pinned], laidTests := true, laidLooks := .later }
def FnExactAddCellCardSaid : Prop := Claim7.holds Tryd.pinned (.plain (OpenSpec.ofChange fnExactAddCellSpec)) fnExactAddCellCard

/-- THE TIED CARD OF 'laws.FnExactTakeCell'. -/
def fnExactTakeCellCard : Claim7 := { stood := { row := fnExactTakeCellRow, standIns := [], harness := (true, "a55e744f43de30cc082874eace490b81d7699e3cb8c176d0318b6834da201f59"), looks := false }, kinds := [], alts := [], laidByText := true, laidKinds := [.data, .pinned], laidTests := true, laidLooks := .later }
def FnExactTakeCellCardSaid : Prop := Claim7.holds Tryd.pinned (.plain (OpenSpec.ofChange fnExactTakeCellSpec)) fnExactTakeCellCard

/-- THE TIED CARD OF 'laws.FnExactLastCells'. -/
def fnExactLastCellsCard : Claim7 := { stood := { row := fnExactLastCellsRow, standIns := [], harness := (true, "a55e744f43de30cc082874eace490b81d7699e3cb8c176d0318b6834da201f59"), looks := false }, kinds := [], alts := [], laidByText := true, laidKinds := [.data, .pinned], laidTests := true, laidLooks := .later }
def FnExactLastCellsCardSaid : Prop := Claim7.holds Tryd.pinned (.plain (OpenSpec.ofChange fnExactLastCellsSpec)) fnExactLastCellsCard

/-- THE TIED CARD OF 'laws.FnExactTurnForm'. -/
def fnExactTurnFormCard : Claim7 := { stood := { row := fnExactTurnFormRow, standIns := [], harness := (true, "a55e744f43de30cc082874eace490b81d7699e3cb8c176d0318b6834da201f59"), looks := false }, kinds := [], alts := [], laidByText := true, laidKinds := [.data, .pinned], laidTests := true, laidLooks := .later }
def FnExactTurnFormCardSaid : Prop := Claim7.holds Tryd.pinned (.plain (OpenSpec.ofChange fnExactTurnFormSpec)) fnExactTurnFormCard

/-- THE SECOND FORM's CARD OF 'laws.FnExactShortestWord'. -/
def fnExactShortestWordUptoCard : Claim7 := { stood := { row := fnExactShortestWordUptoRow, standIns := [], harness := (true, "a55e744f43de30cc082874eace490b81d7699e3cb8c176d0318b6834da201f59"), looks := false }, kinds := [], alts := [], laidByText := true, laidKinds := [.data, .pinned], laidTests := true, laidLooks := .later }
def FnExactShortestWordUptoCardSaid : Prop := Claim7.holds Tryd.pinned (.plain (OpenSpec.upto fnExactShortestWordSpec)) fnExactShortestWordUptoCard

/-- THE SECOND FORM's CARD OF 'laws.FnExactWordToCell'. -/
def fnExactWordToCellUptoCard : Claim7 := { stood := { row := fnExactWordToCellUptoRow, standIns := [], harness := (true, "a55e744f43de30cc082874eace490b81d7699e3cb8c176d0318b6834da201f59"), looks := false }, kinds := [], alts := [], laidByText := true, laidKinds := [.data, .pinned], laidTests := true, laidLooks := .later }
def FnExactWordToCellUptoCardSaid : Prop := Claim7.holds Tryd.pinned (.plain (OpenSpec.upto fnExactWordToCellSpec)) fnExactWordToCellUptoCard

/-- THE SECOND FORM's CARD OF 'laws.FnExactBallsOf'. -/
def fnExactBallsOfUptoCard : Claim7 := { stood := { row := fnExactBallsOfUptoRow, standIns := [], harness := (true, "a55e744f43de30cc082874eace490b81d7699e3cb8c176d0318b6834da201f59"), looks := false }, kinds := [], alts := [], laidByText := true, laidKinds := [.data, .pinned], laidTests := true, laidLooks := .later }
def FnExactBallsOfUptoCardSaid : Prop := Claim7.holds Tryd.pinned (.plain (OpenSpec.upto fnExactBallsOfSpec)) fnExactBallsOfUptoCard

/-- THE SECOND FORM's CARD OF 'laws.FnExactPieceAt'. -/
def fnExactPieceAtUptoCard : Claim7 := { stood := { row := fnExactPieceAtUptoRow, standIns := [], harness := (true, "a55e744f43de30cc082874eace490b81d7699e3cb8c176d0318b6834da201f59"), looks := false }, kinds := [], alts := [], laidByText := true, laidKinds := [.data, .pinned], laidTests := true, laidLooks := .later }
def FnExactPieceAtUptoCardSaid : Prop := Claim7.holds Tryd.pinned (.plain (OpenSpec.upto fnExactPieceAtSpec)) fnExactPieceAtUptoCard

/-- THE SECOND FORM's CARD OF 'laws.FnExactShapeOf'. -/
def fnExactShapeOfUptoCard : Claim7 := { stood := { row := fnExactShapeOfUptoRow, standIns := [], harness := (true, "a55e744f43de30cc082874eace490b81d7699e3cb8c176d0318b6834da201f59"), looks := false }, kinds := [], alts := [], laidByText := true, laidKinds := [.data, .pinned], laidTests := true, laidLooks := .later }
def FnExactShapeOfUptoCardSaid : Prop := Claim7.holds Tryd.pinned (.plain (OpenSpec.upto fnExactShapeOfSpec)) fnExactShapeOfUptoCard

/-- THE SECOND FORM's CARD OF 'laws.FnExactIsForm'. -/
def fnExactIsFormUptoCard : Claim7 := { stood := { row := fnExactIsFormUptoRow, standIns := [], harness := (true, "a55e744f43de30cc082874eace490b81d7699e3cb8c176d0318b6834da201f59"), looks := false }, kinds := [], alts := [], laidByText := true, laidKinds := [.data, .pinned], laidTests := true, laidLooks := .later }
def FnExactIsFormUptoCardSaid : Prop := Claim7.holds Tryd.pinned (.plain (OpenSpec.upto fnExactIsFormSpec)) fnExactIsFormUptoCard

/-- THE SECOND FORM's CARD OF 'laws.FnExactCellsOfForm'. -/
def fnExactCellsOfFormUptoCard : Claim7 := { stood := { row := fnExactCellsOfFormUptoRow, standIns := [], harness := (true, "a55e744f43de30cc082874eace490b81d7699e3cb8c176d0318b6834da201f59"), looks := false }, kinds := [], alts := [], laidByText := true, laidKinds := [.data, .pinned], laidTests := true, laidLooks := .later }
def FnExactCellsOfFormUptoCardSaid : Prop := Claim7.holds Tryd.pinned (.plain (OpenSpec.upto fnExactCellsOfFormSpec)) fnExactCellsOfFormUptoCard

/-- THE SECOND FORM's CARD OF 'laws.FnExactFreeWays'. -/
def fnExactFreeWaysUptoCard : Claim7 := { stood := { row := fnExactFreeWaysUptoRow, standIns := [], harness := (true, "a55e744f43de30cc082874eace490b81d7699e3cb8c176d0318b6834da201f59"), looks := false }, kinds := [], alts := [], laidByText := true, laidKinds := [.data, .pinned], laidTests := true, laidLooks := .later }
def FnExactFreeWaysUptoCardSaid : Prop := Claim7.holds Tryd.pinned (.plain (OpenSpec.upto fnExactFreeWaysSpec)) fnExactFreeWaysUptoCard

/-- THE SECOND FORM's CARD OF 'laws.FnExactCanAdd'. -/
def fnExactCanAddUptoCard : Claim7 := { stood := { row := fnExactCanAddUptoRow, standIns := [], harness := (true, "a55e744f43de30cc082874eace490b81d7699e3cb8c176d0318b6834da201f59"), looks := false }, kinds := [], alts := [], laidByText := true, laidKinds := [.data, .pinned], laidTests := true, laidLooks := .later }
def FnExactCanAddUptoCardSaid : Prop := Claim7.holds Tryd.pinned (.plain (OpenSpec.upto fnExactCanAddSpec)) fnExactCanAddUptoCard

/-- THE SECOND FORM's CARD OF 'laws.FnExactAddCell'. -/
def fnExactAddCellUptoCard : Claim7 := { stood := { row := fnExactAddCellUptoRow, standIns := [], harness := (true, "a55e744f43de30cc082874eace490b81d7699e3cb8c176d0318b6834da201f59"), looks := false }, kinds := [], alts := [], laidByText := true, laidKinds := [.data, .pinned], laidTests := true, laidLooks := .later }
def FnExactAddCellUptoCardSaid : Prop := Claim7.holds Tryd.pinned (.plain (OpenSpec.upto fnExactAddCellSpec)) fnExactAddCellUptoCard

/-- THE SECOND FORM's CARD OF 'laws.FnExactTakeCell'. -/
def fnExactTakeCellUptoCard : Claim7 := { stood := { row := fnExactTakeCellUptoRow, standIns := [], harness := (true, "a55e744f43de30cc082874eace490b81d7699e3cb8c176d0318b6834da201f59"), looks := false }, kinds := [], alts := [], laidByText := true, laidKinds := [.data, .pinned], laidTests := true, laidLooks := .later }
def FnExactTakeCellUptoCardSaid : Prop := Claim7.holds Tryd.pinned (.plain (OpenSpec.upto fnExactTakeCellSpec)) fnExactTakeCellUptoCard

/-- THE SECOND FORM's CARD OF 'laws.FnExactLastCells'. -/
def fnExactLastCellsUptoCard : Claim7 := { stood := { row := fnExactLastCellsUptoRow, standIns := [], harness := (true, "a55e744f43de30cc082874eace490b81d7699e3cb8c176d0318b6834da201f59"), looks := false }, kinds := [], alts := [], laidByText := true, laidKinds := [.data, .pinned], laidTests := true, laidLooks := .later }
def FnExactLastCellsUptoCardSaid : Prop := Claim7.holds Tryd.pinned (.plain (OpenSpec.upto fnExactLastCellsSpec)) fnExactLastCellsUptoCard

/-- THE SECOND FORM's CARD OF 'laws.FnExactTurnForm'. -/
def fnExactTurnFormUptoCard : Claim7 := { stood := { row := fnExactTurnFormUptoRow, standIns := [], harness := (true, "a55e744f43de30cc082874eace490b81d7699e3cb8c176d0318b6834da201f59"), looks := false }, kinds := [], alts := [], laidByText := true, laidKinds := [.data, .pinned], laidTests := true, laidLooks := .later }
def FnExactTurnFormUptoCardSaid : Prop := Claim7.holds Tryd.pinned (.plain (OpenSpec.upto fnExactTurnFormSpec)) fnExactTurnFormUptoCard
end Rows
end Go.Proofs.YtagoipongdnegaaDoor
