/-
  DERIVED. GIVEN WITH THE SEED: THE CARDS: each row of YtppjlcmfmbpkjaaGreatDoorRows.lean that lists a variable, with what it lists TIED to the program's text (the seventh form; the later family's looks); each row that meets fmt, with fmt's text TOLD by the authors' own Lean function (tested against real Go, not proved from fmt's source: count such statements apart). THE CARD IS WHAT COUNTS. Prove the row's statement (the work); the ties are given (YtppjlcmfmbpkjaaGreatDoorTie.lean); close each card by the builder's one call (the guide's Derived/Test/ToyasCard.lean, 'card_holds'). Laid BY PROGRAM, IN A SANDBOX (cutbox-door.mjs). By AI agents, Wed Nov 11 2026. No macro, syntax, notation, axiom, sorry.
-/
import Derived.Test.YtppjlcmfmbpkjaaGreatDoorRows
import GoSem.ClaimSeven
namespace Go.Proofs.YtppjlcmfmbpkjaaGreatDoor
namespace Rows

/-- THE TIED CARD OF 'laws.FnExactTiltWord'. -/
def fnExactTiltWordCard : Claim7 := { stood := { row := fnExactTiltWordRow, standIns := [], harness := (true, "4afe51ffa8e8e7aca823f3b723b7bca23d6b373898fa9fcfe5e57a6d1822a9ef"), looks := false }, kinds := [], alts := [], laidByText := true, laidKinds := [.data, .pinned], laidTests := true, laidLooks := .later }
def FnExactTiltWordCardSaid : Prop := Claim7.holds Tryz.pinned (.plain (OpenSpec.ofChange fnExactTiltWordSpec)) fnExactTiltWordCard

/-- THE SECOND FORM's CARD OF 'laws.FnExactTiltWord'. -/
def fnExactTiltWordUptoCard : Claim7 := { stood := { row := fnExactTiltWordUptoRow, standIns := [], harness := (true, "4afe51ffa8e8e7aca823f3b723b7bca23d6b373898fa9fcfe5e57a6d1822a9ef"), looks := false }, kinds := [], alts := [], laidByText := true, laidKinds := [.data, .pinned], laidTests := true, laidLooks := .later }
def FnExactTiltWordUptoCardSaid : Prop := Claim7.holds Tryz.pinned (.plain (OpenSpec.upto fnExactTiltWordSpec)) fnExactTiltWordUptoCard
end Rows
end Go.Proofs.YtppjlcmfmbpkjaaGreatDoor
