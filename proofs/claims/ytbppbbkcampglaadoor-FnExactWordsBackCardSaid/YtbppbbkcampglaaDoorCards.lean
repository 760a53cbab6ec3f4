/-
  DERIVED. GIVEN WITH THE SEED: THE CARDS: each row of YtbppbbkcampglaaDoorRows.lean that lists a variable, with what it lists TIED to the program's text (the seventh form; the later family's looks); each row that meets fmt, with fmt's text TOLD by the authors' own Lean function (tested against real Go, not proved from fmt's source: count such statements apart). THE CARD IS WHAT COUNTS. Prove the row's statement (the work); the ties are given (YtbppbbkcampglaaDoorTie.lean); close each card by the builder's one call (the guide's Derived/Test/ToyasCard.lean, 'card_holds'). Laid BY PROGRAM, IN A SANDBOX (cutbox-door.mjs). By AI agents, Wed Nov 11 2026. No macro, syntax, notation, axiom, sorry.
-/
import Derived.Test.YtbppbbkcampglaaDoorRows
import GoSem.ClaimSeven
namespace Go.Proofs.YtbppbbkcampglaaDoor
namespace Rows

/-- THE TIED CARD OF 'laws.FnExactPowerWord'. -/
def fnExactPowerWordCard : Claim7 := { stood := { row := fnExactPowerWordRow, standIns := [], harness := (true, "467411af30355936a6331e56e6991f9d911b1561fce6f8184f236c95c7ab8897"), looks := false }, kinds := [], alts := [], laidByText := true, laidKinds := [.data, .pinned], laidTests := true, laidLooks := .later }
def FnExactPowerWordCardSaid : Prop := Claim7.holds Tryd.pinned (.plain (OpenSpec.ofChange fnExactPowerWordSpec)) fnExactPowerWordCard

/-- THE TIED CARD OF 'laws.FnExactWordsBack'. -/
def fnExactWordsBackCard : Claim7 := { stood := { row := fnExactWordsBackRow, standIns := [], harness := (true, "467411af30355936a6331e56e6991f9d911b1561fce6f8184f236c95c7ab8897"), looks := false }, kinds := [], alts := [], laidByText := true, laidKinds := [.data, .pinned], laidTests := true, laidLooks := .later }
def FnExactWordsBackCardSaid : Prop := Claim7.holds Tryd.pinned (.plain (OpenSpec.ofChange fnExactWordsBackSpec)) fnExactWordsBackCard

/-- THE TIED CARD OF 'laws.FnExactGateName'. -/
def fnExactGateNameCard : Claim7 := { stood := { row := fnExactGateNameRow, standIns := [], harness := (true, "467411af30355936a6331e56e6991f9d911b1561fce6f8184f236c95c7ab8897"), looks := false }, kinds := [], alts := [], laidByText := true, laidKinds := [.data], laidTests := true, laidLooks := .later }
def FnExactGateNameCardSaid : Prop := Claim7.holds Tryd.pinned (.plain (OpenSpec.ofChange fnExactGateNameSpec)) fnExactGateNameCard

/-- THE TIED CARD OF 'laws.FnExactPeriodOfWord'. -/
def fnExactPeriodOfWordCard : Claim7 := { stood := { row := fnExactPeriodOfWordRow, standIns := [], harness := (true, "467411af30355936a6331e56e6991f9d911b1561fce6f8184f236c95c7ab8897"), looks := false }, kinds := [], alts := [], laidByText := true, laidKinds := [.data, .pinned], laidTests := true, laidLooks := .later }
def FnExactPeriodOfWordCardSaid : Prop := Claim7.holds Tryd.pinned (.plain (OpenSpec.ofChange fnExactPeriodOfWordSpec)) fnExactPeriodOfWordCard

/-- THE SECOND FORM's CARD OF 'laws.FnExactPowerWord'. -/
def fnExactPowerWordUptoCard : Claim7 := { stood := { row := fnExactPowerWordUptoRow, standIns := [], harness := (true, "467411af30355936a6331e56e6991f9d911b1561fce6f8184f236c95c7ab8897"), looks := false }, kinds := [], alts := [], laidByText := true, laidKinds := [.data, .pinned], laidTests := true, laidLooks := .later }
def FnExactPowerWordUptoCardSaid : Prop := Claim7.holds Tryd.pinned (.plain (OpenSpec.upto fnExactPowerWordSpec)) fnExactPowerWordUptoCard

/-- THE SECOND FORM's CARD OF 'laws.FnExactWordsBack'. -/
def fnExactWordsBackUptoCard : Claim7 := { stood := { row := fnExactWordsBackUptoRow, standIns := [], harness := (true, "467411af30355936a6331e56e6991f9d911b1561fce6f8184f236c95c7ab8897"), looks := false }, kinds := [], alts := [], laidByText := true, laidKinds := [.data, .pinned], laidTests := true, laidLooks := .later }
def FnExactWordsBackUptoCardSaid : Prop := Claim7.holds Tryd.pinned (.plain (OpenSpec.upto fnExactWordsBackSpec)) fnExactWordsBackUptoCard

/-- THE SECOND FORM's CARD OF 'laws.FnExactGateName'. -/
def fnExactGateNameUptoCard : Claim7 := { stood := { row := fnExactGateNameUptoRow, standIns := [], harness := (true, "467411af30355936a6331e56e6991f9d911b1561fce6f8184f236c95c7ab8897"), looks := false }, kinds := [], alts := [], laidByText := true, laidKinds := [.data], laidTests := true, laidLooks := .later }
def FnExactGateNameUptoCardSaid : Prop := Claim7.holds Tryd.pinned (.plain (OpenSpec.upto fnExactGateNameSpec)) fnExactGateNameUptoCard

/-- THE SECOND FORM's CARD OF 'laws.FnExactPeriodOfWord'. -/
def fnExactPeriodOfWordUptoCard : Claim7 := { stood := { row := fnExactPeriodOfWordUptoRow, standIns := [], harness := (true, "467411af30355936a6331e56e6991f9d911b1561fce6f8184f236c95c7ab8897"), looks := false }, kinds := [], alts := [], laidByText := true, laidKinds := [.data, .pinned], laidTests := true, laidLooks := .later }
def FnExactPeriodOfWordUptoCardSaid : Prop := Claim7.holds Tryd.pinned (.plain (OpenSpec.upto fnExactPeriodOfWordSpec)) fnExactPeriodOfWordUptoCard
end Rows
end Go.Proofs.YtbppbbkcampglaaDoor
