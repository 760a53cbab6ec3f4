/-
  DERIVED. GIVEN WITH THE SEED: THE CARDS: each row of YtgibpcmjfnmkdaaDoorRows.lean that lists a variable, with what it lists TIED to the program's text (the seventh form; the later family's looks); each row that meets fmt, with fmt's text TOLD by the authors' own Lean function (tested against real Go, not proved from fmt's source: count such statements apart). THE CARD IS WHAT COUNTS. Prove the row's statement (the work); the ties are given (YtgibpcmjfnmkdaaDoorTie.lean); close each card by the builder's one call (the guide's Derived/Test/ToyasCard.lean, 'card_holds'). Laid BY PROGRAM, IN A SANDBOX (cutbox-door.mjs). By AI agents, Wed Nov 11 2026. No macro, syntax, notation, axiom, sorry.
-/
import Derived.Test.YtgibpcmjfnmkdaaDoorRows
import GoSem.ClaimSeven
namespace Go.Proofs.YtgibpcmjfnmkdaaDoor
namespace Rows

/-- THE TIED CARD OF 'laws.FnExactMoveHole'. -/
def fnExactMoveHoleCard : Claim7 := { stood := { row := fnExactMoveHoleRow, standIns := [], harness := (true, "a28197577a207e5944a8e104c034259f0f3dc2c695bdf89e62a6dc4cbb048795"), looks := true }, kinds := [], alts := [], laidByText := true, laidKinds := [.data, .pinned], laidTests := true, laidLooks := .later }
def FnExactMoveHoleCardSaid : Prop := Claim7.holds Tryd.pinned (.plain (OpenSpec.ofChange fnExactMoveHoleSpec)) fnExactMoveHoleCard

/-- THE TIED CARD OF 'laws.FnExactMoveByWord'. -/
def fnExactMoveByWordCard : Claim7 := { stood := { row := fnExactMoveByWordRow, standIns := [], harness := (true, "a28197577a207e5944a8e104c034259f0f3dc2c695bdf89e62a6dc4cbb048795"), looks := true }, kinds := [], alts := [], laidByText := true, laidKinds := [.data, .pinned], laidTests := true, laidLooks := .later }
def FnExactMoveByWordCardSaid : Prop := Claim7.holds Tryd.pinned (.plain (OpenSpec.ofChange fnExactMoveByWordSpec)) fnExactMoveByWordCard

/-- THE TIED CARD OF 'laws.FnExactBoardText'. -/
def fnExactBoardTextCard : Claim7 := { stood := { row := fnExactBoardTextRow, standIns := [], harness := (true, "a28197577a207e5944a8e104c034259f0f3dc2c695bdf89e62a6dc4cbb048795"), looks := true }, kinds := [], alts := [], laidByText := true, laidKinds := [.data, .data, .data], laidTests := true, laidLooks := .later }
def FnExactBoardTextCardSaid : Prop := Claim7.holds Tryd.pinned (.plain (OpenSpec.ofChange fnExactBoardTextSpec)) fnExactBoardTextCard

/-- THE TIED CARD OF 'laws.FnExactParseBoard'. -/
def fnExactParseBoardCard : Claim7 := { stood := { row := fnExactParseBoardRow, standIns := [], harness := (true, "a28197577a207e5944a8e104c034259f0f3dc2c695bdf89e62a6dc4cbb048795"), looks := true }, kinds := [], alts := [], laidByText := true, laidKinds := [.data, .data, .data, .data, .sentinel, .sentinel, .pinned], laidTests := true, laidLooks := .later }
def FnExactParseBoardCardSaid : Prop := Claim7.holds Tryd.pinned (.plain (OpenSpec.ofChange fnExactParseBoardSpec)) fnExactParseBoardCard

/-- THE SECOND FORM's CARD OF 'laws.FnExactMoveHole'. -/
def fnExactMoveHoleUptoCard : Claim7 := { stood := { row := fnExactMoveHoleUptoRow, standIns := [], harness := (true, "a28197577a207e5944a8e104c034259f0f3dc2c695bdf89e62a6dc4cbb048795"), looks := true }, kinds := [], alts := [], laidByText := true, laidKinds := [.data, .pinned], laidTests := true, laidLooks := .later }
def FnExactMoveHoleUptoCardSaid : Prop := Claim7.holds Tryd.pinned (.plain (OpenSpec.upto fnExactMoveHoleSpec)) fnExactMoveHoleUptoCard

/-- THE SECOND FORM's CARD OF 'laws.FnExactMoveByWord'. -/
def fnExactMoveByWordUptoCard : Claim7 := { stood := { row := fnExactMoveByWordUptoRow, standIns := [], harness := (true, "a28197577a207e5944a8e104c034259f0f3dc2c695bdf89e62a6dc4cbb048795"), looks := true }, kinds := [], alts := [], laidByText := true, laidKinds := [.data, .pinned], laidTests := true, laidLooks := .later }
def FnExactMoveByWordUptoCardSaid : Prop := Claim7.holds Tryd.pinned (.plain (OpenSpec.upto fnExactMoveByWordSpec)) fnExactMoveByWordUptoCard

/-- THE SECOND FORM's CARD OF 'laws.FnExactBoardText'. -/
def fnExactBoardTextUptoCard : Claim7 := { stood := { row := fnExactBoardTextUptoRow, standIns := [], harness := (true, "a28197577a207e5944a8e104c034259f0f3dc2c695bdf89e62a6dc4cbb048795"), looks := true }, kinds := [], alts := [], laidByText := true, laidKinds := [.data, .data, .data], laidTests := true, laidLooks := .later }
def FnExactBoardTextUptoCardSaid : Prop := Claim7.holds Tryd.pinned (.plain (OpenSpec.upto fnExactBoardTextSpec)) fnExactBoardTextUptoCard

/-- THE SECOND FORM's CARD OF 'laws.FnExactParseBoard'. -/
def fnExactParseBoardUptoCard : Claim7 := { stood := { row := fnExactParseBoardUptoRow, standIns := [], harness := (true, "a28197577a207e5944a8e104c034259f0f3dc2c695bdf89e62a6dc4cbb048795"), looks := true }, kinds := [], alts := [], laidByText := true, laidKinds := [.data, .data, .data, .data, .sentinel, .sentinel, .pinned], laidTests := true, laidLooks := .later }
def FnExactParseBoardUptoCardSaid : Prop := Claim7.holds Tryd.pinned (.plain (OpenSpec.upto fnExactParseBoardSpec)) fnExactParseBoardUptoCard
end Rows
end Go.Proofs.YtgibpcmjfnmkdaaDoor
