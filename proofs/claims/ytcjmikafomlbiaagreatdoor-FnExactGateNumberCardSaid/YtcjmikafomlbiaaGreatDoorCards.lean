/-
  DERIVED. GIVEN WITH THE SEED: THE CARDS: each row of YtcjmikafomlbiaaGreatDoorRows.lean that lists a variable, with what it lists TIED to the program's text (the seventh form; the later family's looks); each row that meets fmt, with fmt's text TOLD by the authors' own Lean function (tested against real Go, not proved from fmt's source: count such statements apart). THE CARD IS WHAT COUNTS. Prove the row's statement (the work); the ties are given (YtcjmikafomlbiaaGreatDoorTie.lean); close each card by the builder's one call (the guide's Derived/Test/ToyasCard.lean, 'card_holds'). Laid BY PROGRAM, IN A SANDBOX (cutbox-door.mjs). By AI agents, Wed Nov 11 2026. No macro, syntax, notation, axiom, sorry.
-/
import Derived.Test.YtcjmikafomlbiaaGreatDoorRows
import GoSem.ClaimSeven
namespace Go.Proofs.YtcjmikafomlbiaaGreatDoor
namespace Rows

/-- THE TIED CARD OF 'laws.FnExactGateTable'. -/
def fnExactGateTableCard : Claim7 := { stood := { row := fnExactGateTableRow, standIns := [], harness := (true, "a8c3464f054e2314b816f28fd79ec567d4cb3ef43a39423e7d2cb2f6c398aa7c"), looks := false }, kinds := [], alts := [], laidByText := true, laidKinds := [.data, .pinned], laidTests := true, laidLooks := .later }
def FnExactGateTableCardSaid : Prop := Claim7.holds Tryz.pinned (.plain (OpenSpec.ofChange fnExactGateTableSpec)) fnExactGateTableCard

/-- THE TIED CARD OF 'laws.FnExactGateNumber'. -/
def fnExactGateNumberCard : Claim7 := { stood := { row := fnExactGateNumberRow, standIns := [], harness := (true, "a8c3464f054e2314b816f28fd79ec567d4cb3ef43a39423e7d2cb2f6c398aa7c"), looks := false }, kinds := [], alts := [], laidByText := true, laidKinds := [.data, .pinned], laidTests := true, laidLooks := .later }
def FnExactGateNumberCardSaid : Prop := Claim7.holds Tryz.pinned (.plain (OpenSpec.ofChange fnExactGateNumberSpec)) fnExactGateNumberCard

/-- THE TIED CARD OF 'laws.FnExactIsReversible'. -/
def fnExactIsReversibleCard : Claim7 := { stood := { row := fnExactIsReversibleRow, standIns := [], harness := (true, "a8c3464f054e2314b816f28fd79ec567d4cb3ef43a39423e7d2cb2f6c398aa7c"), looks := false }, kinds := [], alts := [], laidByText := true, laidKinds := [.data, .pinned], laidTests := true, laidLooks := .later }
def FnExactIsReversibleCardSaid : Prop := Claim7.holds Tryz.pinned (.plain (OpenSpec.ofChange fnExactIsReversibleSpec)) fnExactIsReversibleCard

/-- THE SECOND FORM's CARD OF 'laws.FnExactGateTable'. -/
def fnExactGateTableUptoCard : Claim7 := { stood := { row := fnExactGateTableUptoRow, standIns := [], harness := (true, "a8c3464f054e2314b816f28fd79ec567d4cb3ef43a39423e7d2cb2f6c398aa7c"), looks := false }, kinds := [], alts := [], laidByText := true, laidKinds := [.data, .pinned], laidTests := true, laidLooks := .later }
def FnExactGateTableUptoCardSaid : Prop := Claim7.holds Tryz.pinned (.plain (OpenSpec.upto fnExactGateTableSpec)) fnExactGateTableUptoCard

/-- THE SECOND FORM's CARD OF 'laws.FnExactGateNumber'. -/
def fnExactGateNumberUptoCard : Claim7 := { stood := { row := fnExactGateNumberUptoRow, standIns := [], harness := (true, "a8c3464f054e2314b816f28fd79ec567d4cb3ef43a39423e7d2cb2f6c398aa7c"), looks := false }, kinds := [], alts := [], laidByText := true, laidKinds := [.data, .pinned], laidTests := true, laidLooks := .later }
def FnExactGateNumberUptoCardSaid : Prop := Claim7.holds Tryz.pinned (.plain (OpenSpec.upto fnExactGateNumberSpec)) fnExactGateNumberUptoCard

/-- THE SECOND FORM's CARD OF 'laws.FnExactIsReversible'. -/
def fnExactIsReversibleUptoCard : Claim7 := { stood := { row := fnExactIsReversibleUptoRow, standIns := [], harness := (true, "a8c3464f054e2314b816f28fd79ec567d4cb3ef43a39423e7d2cb2f6c398aa7c"), looks := false }, kinds := [], alts := [], laidByText := true, laidKinds := [.data, .pinned], laidTests := true, laidLooks := .later }
def FnExactIsReversibleUptoCardSaid : Prop := Claim7.holds Tryz.pinned (.plain (OpenSpec.upto fnExactIsReversibleSpec)) fnExactIsReversibleUptoCard
end Rows
end Go.Proofs.YtcjmikafomlbiaaGreatDoor
