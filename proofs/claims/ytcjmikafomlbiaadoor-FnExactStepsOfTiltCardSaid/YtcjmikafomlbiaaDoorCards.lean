/-
  DERIVED. GIVEN WITH THE SEED: THE CARDS: each row of YtcjmikafomlbiaaDoorRows.lean that lists a variable, with what it lists TIED to the program's text (the seventh form; the later family's looks); each row that meets fmt, with fmt's text TOLD by the authors' own Lean function (tested against real Go, not proved from fmt's source: count such statements apart). THE CARD IS WHAT COUNTS. Prove the row's statement (the work); the ties are given (YtcjmikafomlbiaaDoorTie.lean); close each card by the builder's one call (the guide's Derived/Test/ToyasCard.lean, 'card_holds'). Laid BY PROGRAM, IN A SANDBOX (cutbox-door.mjs). By AI agents, Wed Nov 11 2026. No macro, syntax, notation, axiom, sorry.
-/
import Derived.Test.YtcjmikafomlbiaaDoorRows
import GoSem.ClaimSeven
namespace Go.Proofs.YtcjmikafomlbiaaDoor
namespace Rows

/-- THE TIED CARD OF 'laws.FnExactCountStates'. -/
def fnExactCountStatesCard : Claim7 := { stood := { row := fnExactCountStatesRow, standIns := [], harness := (true, "c17f65914f5008ed0e491ff04d4211064e9d5986ec05a4e308642c1bb1b4660c"), looks := false }, kinds := [], alts := [], laidByText := true, laidKinds := [.data, .pinned], laidTests := true, laidLooks := .later }
def FnExactCountStatesCardSaid : Prop := Claim7.holds Tryd.pinned (.plain (OpenSpec.ofChange fnExactCountStatesSpec)) fnExactCountStatesCard

/-- THE TIED CARD OF 'laws.FnExactCountStill'. -/
def fnExactCountStillCard : Claim7 := { stood := { row := fnExactCountStillRow, standIns := [], harness := (true, "c17f65914f5008ed0e491ff04d4211064e9d5986ec05a4e308642c1bb1b4660c"), looks := false }, kinds := [], alts := [], laidByText := true, laidKinds := [.data, .pinned], laidTests := true, laidLooks := .later }
def FnExactCountStillCardSaid : Prop := Claim7.holds Tryd.pinned (.plain (OpenSpec.ofChange fnExactCountStillSpec)) fnExactCountStillCard

/-- THE TIED CARD OF 'laws.FnExactCountStillWith'. -/
def fnExactCountStillWithCard : Claim7 := { stood := { row := fnExactCountStillWithRow, standIns := [], harness := (true, "c17f65914f5008ed0e491ff04d4211064e9d5986ec05a4e308642c1bb1b4660c"), looks := false }, kinds := [], alts := [], laidByText := true, laidKinds := [.data, .pinned], laidTests := true, laidLooks := .later }
def FnExactCountStillWithCardSaid : Prop := Claim7.holds Tryd.pinned (.plain (OpenSpec.ofChange fnExactCountStillWithSpec)) fnExactCountStillWithCard

/-- THE TIED CARD OF 'laws.FnExactCountTilted'. -/
def fnExactCountTiltedCard : Claim7 := { stood := { row := fnExactCountTiltedRow, standIns := [], harness := (true, "c17f65914f5008ed0e491ff04d4211064e9d5986ec05a4e308642c1bb1b4660c"), looks := false }, kinds := [], alts := [], laidByText := true, laidKinds := [.data, .pinned], laidTests := true, laidLooks := .later }
def FnExactCountTiltedCardSaid : Prop := Claim7.holds Tryd.pinned (.plain (OpenSpec.ofChange fnExactCountTiltedSpec)) fnExactCountTiltedCard

/-- THE TIED CARD OF 'laws.FnExactStepsOfTilt'. -/
def fnExactStepsOfTiltCard : Claim7 := { stood := { row := fnExactStepsOfTiltRow, standIns := [], harness := (true, "c17f65914f5008ed0e491ff04d4211064e9d5986ec05a4e308642c1bb1b4660c"), looks := false }, kinds := [], alts := [], laidByText := true, laidKinds := [.data, .pinned], laidTests := true, laidLooks := .later }
def FnExactStepsOfTiltCardSaid : Prop := Claim7.holds Tryd.pinned (.plain (OpenSpec.ofChange fnExactStepsOfTiltSpec)) fnExactStepsOfTiltCard

/-- THE SECOND FORM's CARD OF 'laws.FnExactCountStates'. -/
def fnExactCountStatesUptoCard : Claim7 := { stood := { row := fnExactCountStatesUptoRow, standIns := [], harness := (true, "c17f65914f5008ed0e491ff04d4211064e9d5986ec05a4e308642c1bb1b4660c"), looks := false }, kinds := [], alts := [], laidByText := true, laidKinds := [.data, .pinned], laidTests := true, laidLooks := .later }
def FnExactCountStatesUptoCardSaid : Prop := Claim7.holds Tryd.pinned (.plain (OpenSpec.upto fnExactCountStatesSpec)) fnExactCountStatesUptoCard

/-- THE SECOND FORM's CARD OF 'laws.FnExactCountStill'. -/
def fnExactCountStillUptoCard : Claim7 := { stood := { row := fnExactCountStillUptoRow, standIns := [], harness := (true, "c17f65914f5008ed0e491ff04d4211064e9d5986ec05a4e308642c1bb1b4660c"), looks := false }, kinds := [], alts := [], laidByText := true, laidKinds := [.data, .pinned], laidTests := true, laidLooks := .later }
def FnExactCountStillUptoCardSaid : Prop := Claim7.holds Tryd.pinned (.plain (OpenSpec.upto fnExactCountStillSpec)) fnExactCountStillUptoCard

/-- THE SECOND FORM's CARD OF 'laws.FnExactCountStillWith'. -/
def fnExactCountStillWithUptoCard : Claim7 := { stood := { row := fnExactCountStillWithUptoRow, standIns := [], harness := (true, "c17f65914f5008ed0e491ff04d4211064e9d5986ec05a4e308642c1bb1b4660c"), looks := false }, kinds := [], alts := [], laidByText := true, laidKinds := [.data, .pinned], laidTests := true, laidLooks := .later }
def FnExactCountStillWithUptoCardSaid : Prop := Claim7.holds Tryd.pinned (.plain (OpenSpec.upto fnExactCountStillWithSpec)) fnExactCountStillWithUptoCard

/-- THE SECOND FORM's CARD OF 'laws.FnExactCountTilted'. -/
def fnExactCountTiltedUptoCard : Claim7 := { stood := { row := fnExactCountTiltedUptoRow, standIns := [], harness := (true, "c17f65914f5008ed0e491ff04d4211064e9d5986ec05a4e308642c1bb1b4660c"), looks := false }, kinds := [], alts := [], laidByText := true, laidKinds := [.data, .pinned], laidTests := true, laidLooks := .later }
def FnExactCountTiltedUptoCardSaid : Prop := Claim7.holds Tryd.pinned (.plain (OpenSpec.upto fnExactCountTiltedSpec)) fnExactCountTiltedUptoCard

/-- THE SECOND FORM's CARD OF 'laws.FnExactStepsOfTilt'. -/
def fnExactStepsOfTiltUptoCard : Claim7 := { stood := { row := fnExactStepsOfTiltUptoRow, standIns := [], harness := (true, "c17f65914f5008ed0e491ff04d4211064e9d5986ec05a4e308642c1bb1b4660c"), looks := false }, kinds := [], alts := [], laidByText := true, laidKinds := [.data, .pinned], laidTests := true, laidLooks := .later }
def FnExactStepsOfTiltUptoCardSaid : Prop := Claim7.holds Tryd.pinned (.plain (OpenSpec.upto fnExactStepsOfTiltSpec)) fnExactStepsOfTiltUptoCard
end Rows
end Go.Proofs.YtcjmikafomlbiaaDoor
