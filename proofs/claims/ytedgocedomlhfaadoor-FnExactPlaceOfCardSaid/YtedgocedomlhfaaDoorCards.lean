/-
  DERIVED. GIVEN WITH THE SEED: THE CARDS: each row of YtedgocedomlhfaaDoorRows.lean that lists a variable, with what it lists TIED to the program's text (the seventh form; the later family's looks); each row that meets fmt, with fmt's text TOLD by the authors' own Lean function (tested against real Go, not proved from fmt's source: count such statements apart). THE CARD IS WHAT COUNTS. Prove the row's statement (the work); the ties are given (YtedgocedomlhfaaDoorTie.lean); close each card by the builder's one call (the guide's Derived/Test/ToyasCard.lean, 'card_holds'). Laid BY PROGRAM, IN A SANDBOX (cutbox-door.mjs). By AI agents, Wed Nov 11 2026. No macro, syntax, notation, axiom, sorry.
-/
import Derived.Test.YtedgocedomlhfaaDoorRows
import GoSem.ClaimSeven
namespace Go.Proofs.YtedgocedomlhfaaDoor
namespace Rows

/-- THE TIED CARD OF 'laws.FnExactCellAt'. -/
def fnExactCellAtCard : Claim7 := { stood := { row := fnExactCellAtRow, standIns := [], harness := (true, "be6d67a3cf4b3f772b26d68a2c3f7d509fdc7554ee4e902edd8a3f09fc95b609"), looks := false }, kinds := [], alts := [], laidByText := true, laidKinds := [.data, .pinned], laidTests := true, laidLooks := .later }
def FnExactCellAtCardSaid : Prop := Claim7.holds Tryd.pinned (.plain (OpenSpec.ofChange fnExactCellAtSpec)) fnExactCellAtCard

/-- THE TIED CARD OF 'laws.FnExactPutAt'. -/
def fnExactPutAtCard : Claim7 := { stood := { row := fnExactPutAtRow, standIns := [], harness := (true, "be6d67a3cf4b3f772b26d68a2c3f7d509fdc7554ee4e902edd8a3f09fc95b609"), looks := false }, kinds := [], alts := [], laidByText := true, laidKinds := [.data, .pinned], laidTests := true, laidLooks := .later }
def FnExactPutAtCardSaid : Prop := Claim7.holds Tryd.pinned (.plain (OpenSpec.ofChange fnExactPutAtSpec)) fnExactPutAtCard

/-- THE TIED CARD OF 'laws.FnExactCountCells'. -/
def fnExactCountCellsCard : Claim7 := { stood := { row := fnExactCountCellsRow, standIns := [], harness := (true, "be6d67a3cf4b3f772b26d68a2c3f7d509fdc7554ee4e902edd8a3f09fc95b609"), looks := false }, kinds := [], alts := [], laidByText := true, laidKinds := [.data, .pinned], laidTests := true, laidLooks := .later }
def FnExactCountCellsCardSaid : Prop := Claim7.holds Tryd.pinned (.plain (OpenSpec.ofChange fnExactCountCellsSpec)) fnExactCountCellsCard

/-- THE TIED CARD OF 'laws.FnExactBallsOf'. -/
def fnExactBallsOfCard : Claim7 := { stood := { row := fnExactBallsOfRow, standIns := [], harness := (true, "be6d67a3cf4b3f772b26d68a2c3f7d509fdc7554ee4e902edd8a3f09fc95b609"), looks := false }, kinds := [], alts := [], laidByText := true, laidKinds := [.data, .pinned], laidTests := true, laidLooks := .later }
def FnExactBallsOfCardSaid : Prop := Claim7.holds Tryd.pinned (.plain (OpenSpec.ofChange fnExactBallsOfSpec)) fnExactBallsOfCard

/-- THE TIED CARD OF 'laws.FnExactPlaceOf'. -/
def fnExactPlaceOfCard : Claim7 := { stood := { row := fnExactPlaceOfRow, standIns := [], harness := (true, "be6d67a3cf4b3f772b26d68a2c3f7d509fdc7554ee4e902edd8a3f09fc95b609"), looks := false }, kinds := [], alts := [], laidByText := true, laidKinds := [.data, .pinned], laidTests := true, laidLooks := .later }
def FnExactPlaceOfCardSaid : Prop := Claim7.holds Tryd.pinned (.plain (OpenSpec.ofChange fnExactPlaceOfSpec)) fnExactPlaceOfCard

/-- THE TIED CARD OF 'laws.FnExactTurnTray'. -/
def fnExactTurnTrayCard : Claim7 := { stood := { row := fnExactTurnTrayRow, standIns := [], harness := (true, "be6d67a3cf4b3f772b26d68a2c3f7d509fdc7554ee4e902edd8a3f09fc95b609"), looks := false }, kinds := [], alts := [], laidByText := true, laidKinds := [.data, .pinned], laidTests := true, laidLooks := .later }
def FnExactTurnTrayCardSaid : Prop := Claim7.holds Tryd.pinned (.plain (OpenSpec.ofChange fnExactTurnTraySpec)) fnExactTurnTrayCard

/-- THE TIED CARD OF 'laws.FnExactMirrorTray'. -/
def fnExactMirrorTrayCard : Claim7 := { stood := { row := fnExactMirrorTrayRow, standIns := [], harness := (true, "be6d67a3cf4b3f772b26d68a2c3f7d509fdc7554ee4e902edd8a3f09fc95b609"), looks := false }, kinds := [], alts := [], laidByText := true, laidKinds := [.data, .pinned], laidTests := true, laidLooks := .later }
def FnExactMirrorTrayCardSaid : Prop := Claim7.holds Tryd.pinned (.plain (OpenSpec.ofChange fnExactMirrorTraySpec)) fnExactMirrorTrayCard

/-- THE TIED CARD OF 'laws.FnExactTransposeTray'. -/
def fnExactTransposeTrayCard : Claim7 := { stood := { row := fnExactTransposeTrayRow, standIns := [], harness := (true, "be6d67a3cf4b3f772b26d68a2c3f7d509fdc7554ee4e902edd8a3f09fc95b609"), looks := false }, kinds := [], alts := [], laidByText := true, laidKinds := [.data, .pinned], laidTests := true, laidLooks := .later }
def FnExactTransposeTrayCardSaid : Prop := Claim7.holds Tryd.pinned (.plain (OpenSpec.ofChange fnExactTransposeTraySpec)) fnExactTransposeTrayCard

/-- THE TIED CARD OF 'laws.FnExactWallsOf'. -/
def fnExactWallsOfCard : Claim7 := { stood := { row := fnExactWallsOfRow, standIns := [], harness := (true, "be6d67a3cf4b3f772b26d68a2c3f7d509fdc7554ee4e902edd8a3f09fc95b609"), looks := false }, kinds := [], alts := [], laidByText := true, laidKinds := [.data, .pinned], laidTests := true, laidLooks := .later }
def FnExactWallsOfCardSaid : Prop := Claim7.holds Tryd.pinned (.plain (OpenSpec.ofChange fnExactWallsOfSpec)) fnExactWallsOfCard

/-- THE SECOND FORM's CARD OF 'laws.FnExactCellAt'. -/
def fnExactCellAtUptoCard : Claim7 := { stood := { row := fnExactCellAtUptoRow, standIns := [], harness := (true, "be6d67a3cf4b3f772b26d68a2c3f7d509fdc7554ee4e902edd8a3f09fc95b609"), looks := false }, kinds := [], alts := [], laidByText := true, laidKinds := [.data, .pinned], laidTests := true, laidLooks := .later }
def FnExactCellAtUptoCardSaid : Prop := Claim7.holds Tryd.pinned (.plain (OpenSpec.upto fnExactCellAtSpec)) fnExactCellAtUptoCard

/-- THE SECOND FORM's CARD OF 'laws.FnExactPutAt'. -/
def fnExactPutAtUptoCard : Claim7 := { stood := { row := fnExactPutAtUptoRow, standIns := [], harness := (true, "be6d67a3cf4b3f772b26d68a2c3f7d509fdc7554ee4e902edd8a3f09fc95b609"), looks := false }, kinds := [], alts := [], laidByText := true, laidKinds := [.data, .pinned], laidTests := true, laidLooks := .later }
def FnExactPutAtUptoCardSaid : Prop := Claim7.holds Tryd.pinned (.plain (OpenSpec.upto fnExactPutAtSpec)) fnExactPutAtUptoCard

/-- THE SECOND FORM's CARD OF 'laws.FnExactCountCells'. -/
def fnExactCountCellsUptoCard : Claim7 := { stood := { row := fnExactCountCellsUptoRow, standIns := [], harness := (true, "be6d67a3cf4b3f772b26d68a2c3f7d509fdc7554ee4e902edd8a3f09fc95b609"), looks := false }, kinds := [], alts := [], laidByText := true, laidKinds := [.data, .pinned], laidTests := true, laidLooks := .later }
def FnExactCountCellsUptoCardSaid : Prop := Claim7.holds Tryd.pinned (.plain (OpenSpec.upto fnExactCountCellsSpec)) fnExactCountCellsUptoCard

/-- THE SECOND FORM's CARD OF 'laws.FnExactBallsOf'. -/
def fnExactBallsOfUptoCard : Claim7 := { stood := { row := fnExactBallsOfUptoRow, standIns := [], harness := (true, "be6d67a3cf4b3f772b26d68a2c3f7d509fdc7554ee4e902edd8a3f09fc95b609"), looks := false }, kinds := [], alts := [], laidByText := true, laidKinds := [.data, .pinned], laidTests := true, laidLooks := .later }
def FnExactBallsOfUptoCardSaid : Prop := Claim7.holds Tryd.pinned (.plain (OpenSpec.upto fnExactBallsOfSpec)) fnExactBallsOfUptoCard

/-- THE SECOND FORM's CARD OF 'laws.FnExactPlaceOf'. -/
def fnExactPlaceOfUptoCard : Claim7 := { stood := { row := fnExactPlaceOfUptoRow, standIns := [], harness := (true, "be6d67a3cf4b3f772b26d68a2c3f7d509fdc7554ee4e902edd8a3f09fc95b609"), looks := false }, kinds := [], alts := [], laidByText := true, laidKinds := [.data, .pinned], laidTests := true, laidLooks := .later }
def FnExactPlaceOfUptoCardSaid : Prop := Claim7.holds Tryd.pinned (.plain (OpenSpec.upto fnExactPlaceOfSpec)) fnExactPlaceOfUptoCard

/-- THE SECOND FORM's CARD OF 'laws.FnExactTurnTray'. -/
def fnExactTurnTrayUptoCard : Claim7 := { stood := { row := fnExactTurnTrayUptoRow, standIns := [], harness := (true, "be6d67a3cf4b3f772b26d68a2c3f7d509fdc7554ee4e902edd8a3f09fc95b609"), looks := false }, kinds := [], alts := [], laidByText := true, laidKinds := [.data, .pinned], laidTests := true, laidLooks := .later }
def FnExactTurnTrayUptoCardSaid : Prop := Claim7.holds Tryd.pinned (.plain (OpenSpec.upto fnExactTurnTraySpec)) fnExactTurnTrayUptoCard

/-- THE SECOND FORM's CARD OF 'laws.FnExactMirrorTray'. -/
def fnExactMirrorTrayUptoCard : Claim7 := { stood := { row := fnExactMirrorTrayUptoRow, standIns := [], harness := (true, "be6d67a3cf4b3f772b26d68a2c3f7d509fdc7554ee4e902edd8a3f09fc95b609"), looks := false }, kinds := [], alts := [], laidByText := true, laidKinds := [.data, .pinned], laidTests := true, laidLooks := .later }
def FnExactMirrorTrayUptoCardSaid : Prop := Claim7.holds Tryd.pinned (.plain (OpenSpec.upto fnExactMirrorTraySpec)) fnExactMirrorTrayUptoCard

/-- THE SECOND FORM's CARD OF 'laws.FnExactTransposeTray'. -/
def fnExactTransposeTrayUptoCard : Claim7 := { stood := { row := fnExactTransposeTrayUptoRow, standIns := [], harness := (true, "be6d67a3cf4b3f772b26d68a2c3f7d509fdc7554ee4e902edd8a3f09fc95b609"), looks := false }, kinds := [], alts := [], laidByText := true, laidKinds := [.data, .pinned], laidTests := true, laidLooks := .later }
def FnExactTransposeTrayUptoCardSaid : Prop := Claim7.holds Tryd.pinned (.plain (OpenSpec.upto fnExactTransposeTraySpec)) fnExactTransposeTrayUptoCard

/-- THE SECOND FORM's CARD OF 'laws.FnExactWallsOf'. -/
def fnExactWallsOfUptoCard : Claim7 := { stood := { row := fnExactWallsOfUptoRow, standIns := [], harness := (true, "be6d67a3cf4b3f772b26d68a2c3f7d509fdc7554ee4e902edd8a3f09fc95b609"), looks := false }, kinds := [], alts := [], laidByText := true, laidKinds := [.data, .pinned], laidTests := true, laidLooks := .later }
def FnExactWallsOfUptoCardSaid : Prop := Claim7.holds Tryd.pinned (.plain (OpenSpec.upto fnExactWallsOfSpec)) fnExactWallsOfUptoCard
end Rows
end Go.Proofs.YtedgocedomlhfaaDoor
