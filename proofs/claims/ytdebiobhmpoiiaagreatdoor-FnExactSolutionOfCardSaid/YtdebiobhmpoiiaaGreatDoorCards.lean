/-
  DERIVED. GIVEN WITH THE SEED: THE CARDS: each row of YtdebiobhmpoiiaaGreatDoorRows.lean that lists a variable, with what it lists TIED to the program's text (the seventh form; the later family's looks); each row that meets fmt, with fmt's text TOLD by the authors' own Lean function (tested against real Go, not proved from fmt's source: count such statements apart). THE CARD IS WHAT COUNTS. Prove the row's statement (the work); the ties are given (YtdebiobhmpoiiaaGreatDoorTie.lean); close each card by the builder's one call (the guide's Derived/Test/ToyasCard.lean, 'card_holds'). Laid BY PROGRAM, IN A SANDBOX (cutbox-door.mjs). By AI agents, Wed Nov 11 2026. No macro, syntax, notation, axiom, sorry.
-/
import Derived.Test.YtdebiobhmpoiiaaGreatDoorRows
import GoSem.ClaimSeven
namespace Go.Proofs.YtdebiobhmpoiiaaGreatDoor
namespace Rows

/-- THE TIED CARD OF 'laws.FnExactSolutionOf'. -/
def fnExactSolutionOfCard : Claim7 := { stood := { row := fnExactSolutionOfRow, standIns := [], harness := (true, "c373acf5a2173a29d62fb952b2344a27912adbd70e1d49415766aa2dc084bf10"), looks := false }, kinds := [], alts := [], laidByText := true, laidKinds := [.data, .pinned], laidTests := true, laidLooks := .later }
def FnExactSolutionOfCardSaid : Prop := Claim7.holds Tryz.pinned (.plain (OpenSpec.ofChange fnExactSolutionOfSpec)) fnExactSolutionOfCard

/-- THE TIED CARD OF 'laws.FnExactAllSolutions'. -/
def fnExactAllSolutionsCard : Claim7 := { stood := { row := fnExactAllSolutionsRow, standIns := [], harness := (true, "c373acf5a2173a29d62fb952b2344a27912adbd70e1d49415766aa2dc084bf10"), looks := false }, kinds := [], alts := [], laidByText := true, laidKinds := [.data, .pinned], laidTests := true, laidLooks := .later }
def FnExactAllSolutionsCardSaid : Prop := Claim7.holds Tryz.pinned (.plain (OpenSpec.ofChange fnExactAllSolutionsSpec)) fnExactAllSolutionsCard

/-- THE TIED CARD OF 'laws.FnExactWordForGate'. -/
def fnExactWordForGateCard : Claim7 := { stood := { row := fnExactWordForGateRow, standIns := [], harness := (true, "c373acf5a2173a29d62fb952b2344a27912adbd70e1d49415766aa2dc084bf10"), looks := false }, kinds := [], alts := [], laidByText := true, laidKinds := [.data, .pinned], laidTests := true, laidLooks := .later }
def FnExactWordForGateCardSaid : Prop := Claim7.holds Tryz.pinned (.plain (OpenSpec.ofChange fnExactWordForGateSpec)) fnExactWordForGateCard

/-- THE TIED CARD OF 'laws.FnExactCountGates'. -/
def fnExactCountGatesCard : Claim7 := { stood := { row := fnExactCountGatesRow, standIns := [], harness := (true, "c373acf5a2173a29d62fb952b2344a27912adbd70e1d49415766aa2dc084bf10"), looks := false }, kinds := [], alts := [], laidByText := true, laidKinds := [.data, .pinned], laidTests := true, laidLooks := .later }
def FnExactCountGatesCardSaid : Prop := Claim7.holds Tryz.pinned (.plain (OpenSpec.ofChange fnExactCountGatesSpec)) fnExactCountGatesCard

/-- THE SECOND FORM's CARD OF 'laws.FnExactSolutionOf'. -/
def fnExactSolutionOfUptoCard : Claim7 := { stood := { row := fnExactSolutionOfUptoRow, standIns := [], harness := (true, "c373acf5a2173a29d62fb952b2344a27912adbd70e1d49415766aa2dc084bf10"), looks := false }, kinds := [], alts := [], laidByText := true, laidKinds := [.data, .pinned], laidTests := true, laidLooks := .later }
def FnExactSolutionOfUptoCardSaid : Prop := Claim7.holds Tryz.pinned (.plain (OpenSpec.upto fnExactSolutionOfSpec)) fnExactSolutionOfUptoCard

/-- THE SECOND FORM's CARD OF 'laws.FnExactAllSolutions'. -/
def fnExactAllSolutionsUptoCard : Claim7 := { stood := { row := fnExactAllSolutionsUptoRow, standIns := [], harness := (true, "c373acf5a2173a29d62fb952b2344a27912adbd70e1d49415766aa2dc084bf10"), looks := false }, kinds := [], alts := [], laidByText := true, laidKinds := [.data, .pinned], laidTests := true, laidLooks := .later }
def FnExactAllSolutionsUptoCardSaid : Prop := Claim7.holds Tryz.pinned (.plain (OpenSpec.upto fnExactAllSolutionsSpec)) fnExactAllSolutionsUptoCard

/-- THE SECOND FORM's CARD OF 'laws.FnExactWordForGate'. -/
def fnExactWordForGateUptoCard : Claim7 := { stood := { row := fnExactWordForGateUptoRow, standIns := [], harness := (true, "c373acf5a2173a29d62fb952b2344a27912adbd70e1d49415766aa2dc084bf10"), looks := false }, kinds := [], alts := [], laidByText := true, laidKinds := [.data, .pinned], laidTests := true, laidLooks := .later }
def FnExactWordForGateUptoCardSaid : Prop := Claim7.holds Tryz.pinned (.plain (OpenSpec.upto fnExactWordForGateSpec)) fnExactWordForGateUptoCard

/-- THE SECOND FORM's CARD OF 'laws.FnExactCountGates'. -/
def fnExactCountGatesUptoCard : Claim7 := { stood := { row := fnExactCountGatesUptoRow, standIns := [], harness := (true, "c373acf5a2173a29d62fb952b2344a27912adbd70e1d49415766aa2dc084bf10"), looks := false }, kinds := [], alts := [], laidByText := true, laidKinds := [.data, .pinned], laidTests := true, laidLooks := .later }
def FnExactCountGatesUptoCardSaid : Prop := Claim7.holds Tryz.pinned (.plain (OpenSpec.upto fnExactCountGatesSpec)) fnExactCountGatesUptoCard
end Rows
end Go.Proofs.YtdebiobhmpoiiaaGreatDoor
