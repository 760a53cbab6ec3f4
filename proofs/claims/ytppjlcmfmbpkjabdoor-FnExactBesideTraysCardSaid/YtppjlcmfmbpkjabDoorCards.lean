/-
  DERIVED. GIVEN WITH THE SEED: THE CARDS: each row of YtppjlcmfmbpkjabDoorRows.lean that lists a variable, with what it lists TIED to the program's text (the seventh form; the later family's looks); each row that meets fmt, with fmt's text TOLD by the authors' own Lean function (tested against real Go, not proved from fmt's source: count such statements apart). THE CARD IS WHAT COUNTS. Prove the row's statement (the work); the ties are given (YtppjlcmfmbpkjabDoorTie.lean); close each card by the builder's one call (the guide's Derived/Test/ToyasCard.lean, 'card_holds'). Laid BY PROGRAM, IN A SANDBOX (cutbox-door.mjs). By AI agents, Wed Nov 11 2026. No macro, syntax, notation, axiom, sorry.
-/
import Derived.Test.YtppjlcmfmbpkjabDoorRows
import GoSem.ClaimSeven
namespace Go.Proofs.YtppjlcmfmbpkjabDoor
namespace Rows

/-- THE TIED CARD OF 'laws.FnExactBesideTrays'. -/
def fnExactBesideTraysCard : Claim7 := { stood := { row := fnExactBesideTraysRow, standIns := [], harness := (true, "12d17819d50b7ed610c16c3f250344f3ed41ee3891ac303231c1c642e09d276a"), looks := false }, kinds := [], alts := [], laidByText := true, laidKinds := [.data, .pinned], laidTests := true, laidLooks := .later }
def FnExactBesideTraysCardSaid : Prop := Claim7.holds Tryd.pinned (.plain (OpenSpec.ofChange fnExactBesideTraysSpec)) fnExactBesideTraysCard

/-- THE TIED CARD OF 'laws.FnExactCropTray'. -/
def fnExactCropTrayCard : Claim7 := { stood := { row := fnExactCropTrayRow, standIns := [], harness := (true, "12d17819d50b7ed610c16c3f250344f3ed41ee3891ac303231c1c642e09d276a"), looks := false }, kinds := [], alts := [], laidByText := true, laidKinds := [.data, .pinned], laidTests := true, laidLooks := .later }
def FnExactCropTrayCardSaid : Prop := Claim7.holds Tryd.pinned (.plain (OpenSpec.ofChange fnExactCropTraySpec)) fnExactCropTrayCard

/-- THE TIED CARD OF 'laws.FnExactPartsOf'. -/
def fnExactPartsOfCard : Claim7 := { stood := { row := fnExactPartsOfRow, standIns := [], harness := (true, "12d17819d50b7ed610c16c3f250344f3ed41ee3891ac303231c1c642e09d276a"), looks := false }, kinds := [], alts := [], laidByText := true, laidKinds := [.data, .pinned], laidTests := true, laidLooks := .later }
def FnExactPartsOfCardSaid : Prop := Claim7.holds Tryd.pinned (.plain (OpenSpec.ofChange fnExactPartsOfSpec)) fnExactPartsOfCard

/-- THE TIED CARD OF 'laws.FnExactWayBetween'. -/
def fnExactWayBetweenCard : Claim7 := { stood := { row := fnExactWayBetweenRow, standIns := [], harness := (true, "12d17819d50b7ed610c16c3f250344f3ed41ee3891ac303231c1c642e09d276a"), looks := false }, kinds := [], alts := [], laidByText := true, laidKinds := [.data, .pinned], laidTests := true, laidLooks := .later }
def FnExactWayBetweenCardSaid : Prop := Claim7.holds Tryd.pinned (.plain (OpenSpec.ofChange fnExactWayBetweenSpec)) fnExactWayBetweenCard

/-- THE TIED CARD OF 'laws.FnExactShortWord'. -/
def fnExactShortWordCard : Claim7 := { stood := { row := fnExactShortWordRow, standIns := [], harness := (true, "12d17819d50b7ed610c16c3f250344f3ed41ee3891ac303231c1c642e09d276a"), looks := false }, kinds := [], alts := [], laidByText := true, laidKinds := [.data, .pinned], laidTests := true, laidLooks := .later }
def FnExactShortWordCardSaid : Prop := Claim7.holds Tryd.pinned (.plain (OpenSpec.ofChange fnExactShortWordSpec)) fnExactShortWordCard

/-- THE SECOND FORM's CARD OF 'laws.FnExactBesideTrays'. -/
def fnExactBesideTraysUptoCard : Claim7 := { stood := { row := fnExactBesideTraysUptoRow, standIns := [], harness := (true, "12d17819d50b7ed610c16c3f250344f3ed41ee3891ac303231c1c642e09d276a"), looks := false }, kinds := [], alts := [], laidByText := true, laidKinds := [.data, .pinned], laidTests := true, laidLooks := .later }
def FnExactBesideTraysUptoCardSaid : Prop := Claim7.holds Tryd.pinned (.plain (OpenSpec.upto fnExactBesideTraysSpec)) fnExactBesideTraysUptoCard

/-- THE SECOND FORM's CARD OF 'laws.FnExactCropTray'. -/
def fnExactCropTrayUptoCard : Claim7 := { stood := { row := fnExactCropTrayUptoRow, standIns := [], harness := (true, "12d17819d50b7ed610c16c3f250344f3ed41ee3891ac303231c1c642e09d276a"), looks := false }, kinds := [], alts := [], laidByText := true, laidKinds := [.data, .pinned], laidTests := true, laidLooks := .later }
def FnExactCropTrayUptoCardSaid : Prop := Claim7.holds Tryd.pinned (.plain (OpenSpec.upto fnExactCropTraySpec)) fnExactCropTrayUptoCard

/-- THE SECOND FORM's CARD OF 'laws.FnExactPartsOf'. -/
def fnExactPartsOfUptoCard : Claim7 := { stood := { row := fnExactPartsOfUptoRow, standIns := [], harness := (true, "12d17819d50b7ed610c16c3f250344f3ed41ee3891ac303231c1c642e09d276a"), looks := false }, kinds := [], alts := [], laidByText := true, laidKinds := [.data, .pinned], laidTests := true, laidLooks := .later }
def FnExactPartsOfUptoCardSaid : Prop := Claim7.holds Tryd.pinned (.plain (OpenSpec.upto fnExactPartsOfSpec)) fnExactPartsOfUptoCard

/-- THE SECOND FORM's CARD OF 'laws.FnExactWayBetween'. -/
def fnExactWayBetweenUptoCard : Claim7 := { stood := { row := fnExactWayBetweenUptoRow, standIns := [], harness := (true, "12d17819d50b7ed610c16c3f250344f3ed41ee3891ac303231c1c642e09d276a"), looks := false }, kinds := [], alts := [], laidByText := true, laidKinds := [.data, .pinned], laidTests := true, laidLooks := .later }
def FnExactWayBetweenUptoCardSaid : Prop := Claim7.holds Tryd.pinned (.plain (OpenSpec.upto fnExactWayBetweenSpec)) fnExactWayBetweenUptoCard

/-- THE SECOND FORM's CARD OF 'laws.FnExactShortWord'. -/
def fnExactShortWordUptoCard : Claim7 := { stood := { row := fnExactShortWordUptoRow, standIns := [], harness := (true, "12d17819d50b7ed610c16c3f250344f3ed41ee3891ac303231c1c642e09d276a"), looks := false }, kinds := [], alts := [], laidByText := true, laidKinds := [.data, .pinned], laidTests := true, laidLooks := .later }
def FnExactShortWordUptoCardSaid : Prop := Claim7.holds Tryd.pinned (.plain (OpenSpec.upto fnExactShortWordSpec)) fnExactShortWordUptoCard
end Rows
end Go.Proofs.YtppjlcmfmbpkjabDoor
