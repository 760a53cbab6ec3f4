/-
  DERIVED. GIVEN WITH THE SEED: THE CARDS: each row of YthjkeohnjggmiaaDoorRows.lean that lists a variable, with what it lists TIED to the program's text (the seventh form; the later family's looks); each row that meets fmt, with fmt's text TOLD by the authors' own Lean function (tested against real Go, not proved from fmt's source: count such statements apart). THE CARD IS WHAT COUNTS. Prove the row's statement (the work); the ties are given (YthjkeohnjggmiaaDoorTie.lean); close each card by the builder's one call (the guide's Derived/Test/ToyasCard.lean, 'card_holds'). Laid BY PROGRAM, IN A SANDBOX (cutbox-door.mjs). By AI agents, Wed Nov 11 2026. No macro, syntax, notation, axiom, sorry.
-/
import Derived.Test.YthjkeohnjggmiaaDoorRows
import GoSem.ClaimSeven
namespace Go.Proofs.YthjkeohnjggmiaaDoor
namespace Rows

/-- THE TIED CARD OF 'laws.FnExactLeastTray'. -/
def fnExactLeastTrayCard : Claim7 := { stood := { row := fnExactLeastTrayRow, standIns := [], harness := (true, "56de9d571e26e244fab492dd037cd89eb6d1252d28d9dea93d728c6ba5955eb5"), looks := false }, kinds := [], alts := [], laidByText := true, laidKinds := [.data, .pinned], laidTests := true, laidLooks := .later }
def FnExactLeastTrayCardSaid : Prop := Claim7.holds Tryd.pinned (.plain (OpenSpec.ofChange fnExactLeastTraySpec)) fnExactLeastTrayCard

/-- THE TIED CARD OF 'laws.FnExactKeepersOf'. -/
def fnExactKeepersOfCard : Claim7 := { stood := { row := fnExactKeepersOfRow, standIns := [], harness := (true, "56de9d571e26e244fab492dd037cd89eb6d1252d28d9dea93d728c6ba5955eb5"), looks := false }, kinds := [], alts := [], laidByText := true, laidKinds := [.data, .pinned], laidTests := true, laidLooks := .later }
def FnExactKeepersOfCardSaid : Prop := Claim7.holds Tryd.pinned (.plain (OpenSpec.ofChange fnExactKeepersOfSpec)) fnExactKeepersOfCard

/-- THE TIED CARD OF 'laws.FnExactCropTray'. -/
def fnExactCropTrayCard : Claim7 := { stood := { row := fnExactCropTrayRow, standIns := [], harness := (true, "56de9d571e26e244fab492dd037cd89eb6d1252d28d9dea93d728c6ba5955eb5"), looks := false }, kinds := [], alts := [], laidByText := true, laidKinds := [.data, .pinned], laidTests := true, laidLooks := .later }
def FnExactCropTrayCardSaid : Prop := Claim7.holds Tryd.pinned (.plain (OpenSpec.ofChange fnExactCropTraySpec)) fnExactCropTrayCard

/-- THE TIED CARD OF 'laws.FnExactJoinTrays'. -/
def fnExactJoinTraysCard : Claim7 := { stood := { row := fnExactJoinTraysRow, standIns := [], harness := (true, "56de9d571e26e244fab492dd037cd89eb6d1252d28d9dea93d728c6ba5955eb5"), looks := false }, kinds := [], alts := [], laidByText := true, laidKinds := [.data, .pinned], laidTests := true, laidLooks := .later }
def FnExactJoinTraysCardSaid : Prop := Claim7.holds Tryd.pinned (.plain (OpenSpec.ofChange fnExactJoinTraysSpec)) fnExactJoinTraysCard

/-- THE TIED CARD OF 'laws.FnExactBesideTrays'. -/
def fnExactBesideTraysCard : Claim7 := { stood := { row := fnExactBesideTraysRow, standIns := [], harness := (true, "56de9d571e26e244fab492dd037cd89eb6d1252d28d9dea93d728c6ba5955eb5"), looks := false }, kinds := [], alts := [], laidByText := true, laidKinds := [.data, .pinned], laidTests := true, laidLooks := .later }
def FnExactBesideTraysCardSaid : Prop := Claim7.holds Tryd.pinned (.plain (OpenSpec.ofChange fnExactBesideTraysSpec)) fnExactBesideTraysCard

/-- THE TIED CARD OF 'laws.FnExactPartsOf'. -/
def fnExactPartsOfCard : Claim7 := { stood := { row := fnExactPartsOfRow, standIns := [], harness := (true, "56de9d571e26e244fab492dd037cd89eb6d1252d28d9dea93d728c6ba5955eb5"), looks := false }, kinds := [], alts := [], laidByText := true, laidKinds := [.data, .pinned], laidTests := true, laidLooks := .later }
def FnExactPartsOfCardSaid : Prop := Claim7.holds Tryd.pinned (.plain (OpenSpec.ofChange fnExactPartsOfSpec)) fnExactPartsOfCard

/-- THE TIED CARD OF 'laws.FnExactWayBetween'. -/
def fnExactWayBetweenCard : Claim7 := { stood := { row := fnExactWayBetweenRow, standIns := [], harness := (true, "56de9d571e26e244fab492dd037cd89eb6d1252d28d9dea93d728c6ba5955eb5"), looks := false }, kinds := [], alts := [], laidByText := true, laidKinds := [.data, .pinned], laidTests := true, laidLooks := .later }
def FnExactWayBetweenCardSaid : Prop := Claim7.holds Tryd.pinned (.plain (OpenSpec.ofChange fnExactWayBetweenSpec)) fnExactWayBetweenCard

/-- THE TIED CARD OF 'laws.FnExactIsWord'. -/
def fnExactIsWordCard : Claim7 := { stood := { row := fnExactIsWordRow, standIns := [], harness := (true, "56de9d571e26e244fab492dd037cd89eb6d1252d28d9dea93d728c6ba5955eb5"), looks := false }, kinds := [], alts := [], laidByText := true, laidKinds := [.data, .pinned], laidTests := true, laidLooks := .later }
def FnExactIsWordCardSaid : Prop := Claim7.holds Tryd.pinned (.plain (OpenSpec.ofChange fnExactIsWordSpec)) fnExactIsWordCard

/-- THE TIED CARD OF 'laws.FnExactShortWord'. -/
def fnExactShortWordCard : Claim7 := { stood := { row := fnExactShortWordRow, standIns := [], harness := (true, "56de9d571e26e244fab492dd037cd89eb6d1252d28d9dea93d728c6ba5955eb5"), looks := false }, kinds := [], alts := [], laidByText := true, laidKinds := [.data, .pinned], laidTests := true, laidLooks := .later }
def FnExactShortWordCardSaid : Prop := Claim7.holds Tryd.pinned (.plain (OpenSpec.ofChange fnExactShortWordSpec)) fnExactShortWordCard

/-- THE TIED CARD OF 'laws.FnExactOppositeWord'. -/
def fnExactOppositeWordCard : Claim7 := { stood := { row := fnExactOppositeWordRow, standIns := [], harness := (true, "56de9d571e26e244fab492dd037cd89eb6d1252d28d9dea93d728c6ba5955eb5"), looks := false }, kinds := [], alts := [], laidByText := true, laidKinds := [.data, .pinned], laidTests := true, laidLooks := .later }
def FnExactOppositeWordCardSaid : Prop := Claim7.holds Tryd.pinned (.plain (OpenSpec.ofChange fnExactOppositeWordSpec)) fnExactOppositeWordCard

/-- THE TIED CARD OF 'laws.FnExactTurnWord'. -/
def fnExactTurnWordCard : Claim7 := { stood := { row := fnExactTurnWordRow, standIns := [], harness := (true, "56de9d571e26e244fab492dd037cd89eb6d1252d28d9dea93d728c6ba5955eb5"), looks := false }, kinds := [], alts := [], laidByText := true, laidKinds := [.data, .pinned], laidTests := true, laidLooks := .later }
def FnExactTurnWordCardSaid : Prop := Claim7.holds Tryd.pinned (.plain (OpenSpec.ofChange fnExactTurnWordSpec)) fnExactTurnWordCard

/-- THE TIED CARD OF 'laws.FnExactTiltTray'. -/
def fnExactTiltTrayCard : Claim7 := { stood := { row := fnExactTiltTrayRow, standIns := [], harness := (true, "56de9d571e26e244fab492dd037cd89eb6d1252d28d9dea93d728c6ba5955eb5"), looks := false }, kinds := [], alts := [], laidByText := true, laidKinds := [.data, .pinned], laidTests := true, laidLooks := .later }
def FnExactTiltTrayCardSaid : Prop := Claim7.holds Tryd.pinned (.plain (OpenSpec.ofChange fnExactTiltTraySpec)) fnExactTiltTrayCard

/-- THE SECOND FORM's CARD OF 'laws.FnExactLeastTray'. -/
def fnExactLeastTrayUptoCard : Claim7 := { stood := { row := fnExactLeastTrayUptoRow, standIns := [], harness := (true, "56de9d571e26e244fab492dd037cd89eb6d1252d28d9dea93d728c6ba5955eb5"), looks := false }, kinds := [], alts := [], laidByText := true, laidKinds := [.data, .pinned], laidTests := true, laidLooks := .later }
def FnExactLeastTrayUptoCardSaid : Prop := Claim7.holds Tryd.pinned (.plain (OpenSpec.upto fnExactLeastTraySpec)) fnExactLeastTrayUptoCard

/-- THE SECOND FORM's CARD OF 'laws.FnExactKeepersOf'. -/
def fnExactKeepersOfUptoCard : Claim7 := { stood := { row := fnExactKeepersOfUptoRow, standIns := [], harness := (true, "56de9d571e26e244fab492dd037cd89eb6d1252d28d9dea93d728c6ba5955eb5"), looks := false }, kinds := [], alts := [], laidByText := true, laidKinds := [.data, .pinned], laidTests := true, laidLooks := .later }
def FnExactKeepersOfUptoCardSaid : Prop := Claim7.holds Tryd.pinned (.plain (OpenSpec.upto fnExactKeepersOfSpec)) fnExactKeepersOfUptoCard

/-- THE SECOND FORM's CARD OF 'laws.FnExactCropTray'. -/
def fnExactCropTrayUptoCard : Claim7 := { stood := { row := fnExactCropTrayUptoRow, standIns := [], harness := (true, "56de9d571e26e244fab492dd037cd89eb6d1252d28d9dea93d728c6ba5955eb5"), looks := false }, kinds := [], alts := [], laidByText := true, laidKinds := [.data, .pinned], laidTests := true, laidLooks := .later }
def FnExactCropTrayUptoCardSaid : Prop := Claim7.holds Tryd.pinned (.plain (OpenSpec.upto fnExactCropTraySpec)) fnExactCropTrayUptoCard

/-- THE SECOND FORM's CARD OF 'laws.FnExactJoinTrays'. -/
def fnExactJoinTraysUptoCard : Claim7 := { stood := { row := fnExactJoinTraysUptoRow, standIns := [], harness := (true, "56de9d571e26e244fab492dd037cd89eb6d1252d28d9dea93d728c6ba5955eb5"), looks := false }, kinds := [], alts := [], laidByText := true, laidKinds := [.data, .pinned], laidTests := true, laidLooks := .later }
def FnExactJoinTraysUptoCardSaid : Prop := Claim7.holds Tryd.pinned (.plain (OpenSpec.upto fnExactJoinTraysSpec)) fnExactJoinTraysUptoCard

/-- THE SECOND FORM's CARD OF 'laws.FnExactBesideTrays'. -/
def fnExactBesideTraysUptoCard : Claim7 := { stood := { row := fnExactBesideTraysUptoRow, standIns := [], harness := (true, "56de9d571e26e244fab492dd037cd89eb6d1252d28d9dea93d728c6ba5955eb5"), looks := false }, kinds := [], alts := [], laidByText := true, laidKinds := [.data, .pinned], laidTests := true, laidLooks := .later }
def FnExactBesideTraysUptoCardSaid : Prop := Claim7.holds Tryd.pinned (.plain (OpenSpec.upto fnExactBesideTraysSpec)) fnExactBesideTraysUptoCard

/-- THE SECOND FORM's CARD OF 'laws.FnExactPartsOf'. -/
def fnExactPartsOfUptoCard : Claim7 := { stood := { row := fnExactPartsOfUptoRow, standIns := [], harness := (true, "56de9d571e26e244fab492dd037cd89eb6d1252d28d9dea93d728c6ba5955eb5"), looks := false }, kinds := [], alts := [], laidByText := true, laidKinds := [.data, .pinned], laidTests := true, laidLooks := .later }
def FnExactPartsOfUptoCardSaid : Prop := Claim7.holds Tryd.pinned (.plain (OpenSpec.upto fnExactPartsOfSpec)) fnExactPartsOfUptoCard

/-- THE SECOND FORM's CARD OF 'laws.FnExactWayBetween'. -/
def fnExactWayBetweenUptoCard : Claim7 := { stood := { row := fnExactWayBetweenUptoRow, standIns := [], harness := (true, "56de9d571e26e244fab492dd037cd89eb6d1252d28d9dea93d728c6ba5955eb5"), looks := false }, kinds := [], alts := [], laidByText := true, laidKinds := [.data, .pinned], laidTests := true, laidLooks := .later }
def FnExactWayBetweenUptoCardSaid : Prop := Claim7.holds Tryd.pinned (.plain (OpenSpec.upto fnExactWayBetweenSpec)) fnExactWayBetweenUptoCard

/-- THE SECOND FORM's CARD OF 'laws.FnExactIsWord'. -/
def fnExactIsWordUptoCard : Claim7 := { stood := { row := fnExactIsWordUptoRow, standIns := [], harness := (true, "56de9d571e26e244fab492dd037cd89eb6d1252d28d9dea93d728c6ba5955eb5"), looks := false }, kinds := [], alts := [], laidByText := true, laidKinds := [.data, .pinned], laidTests := true, laidLooks := .later }
def FnExactIsWordUptoCardSaid : Prop := Claim7.holds Tryd.pinned (.plain (OpenSpec.upto fnExactIsWordSpec)) fnExactIsWordUptoCard

/-- THE SECOND FORM's CARD OF 'laws.FnExactShortWord'. -/
def fnExactShortWordUptoCard : Claim7 := { stood := { row := fnExactShortWordUptoRow, standIns := [], harness := (true, "56de9d571e26e244fab492dd037cd89eb6d1252d28d9dea93d728c6ba5955eb5"), looks := false }, kinds := [], alts := [], laidByText := true, laidKinds := [.data, .pinned], laidTests := true, laidLooks := .later }
def FnExactShortWordUptoCardSaid : Prop := Claim7.holds Tryd.pinned (.plain (OpenSpec.upto fnExactShortWordSpec)) fnExactShortWordUptoCard

/-- THE SECOND FORM's CARD OF 'laws.FnExactOppositeWord'. -/
def fnExactOppositeWordUptoCard : Claim7 := { stood := { row := fnExactOppositeWordUptoRow, standIns := [], harness := (true, "56de9d571e26e244fab492dd037cd89eb6d1252d28d9dea93d728c6ba5955eb5"), looks := false }, kinds := [], alts := [], laidByText := true, laidKinds := [.data, .pinned], laidTests := true, laidLooks := .later }
def FnExactOppositeWordUptoCardSaid : Prop := Claim7.holds Tryd.pinned (.plain (OpenSpec.upto fnExactOppositeWordSpec)) fnExactOppositeWordUptoCard

/-- THE SECOND FORM's CARD OF 'laws.FnExactTurnWord'. -/
def fnExactTurnWordUptoCard : Claim7 := { stood := { row := fnExactTurnWordUptoRow, standIns := [], harness := (true, "56de9d571e26e244fab492dd037cd89eb6d1252d28d9dea93d728c6ba5955eb5"), looks := false }, kinds := [], alts := [], laidByText := true, laidKinds := [.data, .pinned], laidTests := true, laidLooks := .later }
def FnExactTurnWordUptoCardSaid : Prop := Claim7.holds Tryd.pinned (.plain (OpenSpec.upto fnExactTurnWordSpec)) fnExactTurnWordUptoCard

/-- THE SECOND FORM's CARD OF 'laws.FnExactTiltTray'. -/
def fnExactTiltTrayUptoCard : Claim7 := { stood := { row := fnExactTiltTrayUptoRow, standIns := [], harness := (true, "56de9d571e26e244fab492dd037cd89eb6d1252d28d9dea93d728c6ba5955eb5"), looks := false }, kinds := [], alts := [], laidByText := true, laidKinds := [.data, .pinned], laidTests := true, laidLooks := .later }
def FnExactTiltTrayUptoCardSaid : Prop := Claim7.holds Tryd.pinned (.plain (OpenSpec.upto fnExactTiltTraySpec)) fnExactTiltTrayUptoCard
end Rows
end Go.Proofs.YthjkeohnjggmiaaDoor
