/-
  DERIVED. GIVEN WITH THE SEED: THE CARDS: each row of YtcldlnleiiloaaaDoorRows.lean that lists a variable, with what it lists TIED to the program's text (the seventh form; the later family's looks); each row that meets fmt, with fmt's text TOLD by the authors' own Lean function (tested against real Go, not proved from fmt's source: count such statements apart). THE CARD IS WHAT COUNTS. Prove the row's statement (the work); the ties are given (YtcldlnleiiloaaaDoorTie.lean); close each card by the builder's one call (the guide's Derived/Test/ToyasCard.lean, 'card_holds'). Laid BY PROGRAM, IN A SANDBOX (cutbox-door.mjs). By AI agents, Wed Nov 11 2026. No macro, syntax, notation, axiom, sorry.
-/
import Derived.Test.YtcldlnleiiloaaaDoorRows
import GoSem.ClaimSeven
namespace Go.Proofs.YtcldlnleiiloaaaDoor
namespace Rows

/-- THE TIED CARD OF 'laws.FnExactCountReached'. -/
def fnExactCountReachedCard : Claim7 := { stood := { row := fnExactCountReachedRow, standIns := [], harness := (true, "e5a3927c11de1133bc06d39fba48097895d302e15cd12c08ec9c51659d077a04"), looks := false }, kinds := [], alts := [], laidByText := true, laidKinds := [.data, .pinned], laidTests := true, laidLooks := .later }
def FnExactCountReachedCardSaid : Prop := Claim7.holds Tryd.pinned (.plain (OpenSpec.ofChange fnExactCountReachedSpec)) fnExactCountReachedCard

/-- THE TIED CARD OF 'laws.FnExactIsReached'. -/
def fnExactIsReachedCard : Claim7 := { stood := { row := fnExactIsReachedRow, standIns := [], harness := (true, "e5a3927c11de1133bc06d39fba48097895d302e15cd12c08ec9c51659d077a04"), looks := false }, kinds := [], alts := [], laidByText := true, laidKinds := [.data, .pinned], laidTests := true, laidLooks := .later }
def FnExactIsReachedCardSaid : Prop := Claim7.holds Tryd.pinned (.plain (OpenSpec.ofChange fnExactIsReachedSpec)) fnExactIsReachedCard

/-- THE TIED CARD OF 'laws.FnExactDistanceTo'. -/
def fnExactDistanceToCard : Claim7 := { stood := { row := fnExactDistanceToRow, standIns := [], harness := (true, "e5a3927c11de1133bc06d39fba48097895d302e15cd12c08ec9c51659d077a04"), looks := false }, kinds := [], alts := [], laidByText := true, laidKinds := [.data, .pinned], laidTests := true, laidLooks := .later }
def FnExactDistanceToCardSaid : Prop := Claim7.holds Tryd.pinned (.plain (OpenSpec.ofChange fnExactDistanceToSpec)) fnExactDistanceToCard

/-- THE TIED CARD OF 'laws.FnExactShortestWord'. -/
def fnExactShortestWordCard : Claim7 := { stood := { row := fnExactShortestWordRow, standIns := [], harness := (true, "e5a3927c11de1133bc06d39fba48097895d302e15cd12c08ec9c51659d077a04"), looks := false }, kinds := [], alts := [], laidByText := true, laidKinds := [.data, .pinned], laidTests := true, laidLooks := .later }
def FnExactShortestWordCardSaid : Prop := Claim7.holds Tryd.pinned (.plain (OpenSpec.ofChange fnExactShortestWordSpec)) fnExactShortestWordCard

/-- THE TIED CARD OF 'laws.FnExactCountShortest'. -/
def fnExactCountShortestCard : Claim7 := { stood := { row := fnExactCountShortestRow, standIns := [], harness := (true, "e5a3927c11de1133bc06d39fba48097895d302e15cd12c08ec9c51659d077a04"), looks := false }, kinds := [], alts := [], laidByText := true, laidKinds := [.data, .pinned], laidTests := true, laidLooks := .later }
def FnExactCountShortestCardSaid : Prop := Claim7.holds Tryd.pinned (.plain (OpenSpec.ofChange fnExactCountShortestSpec)) fnExactCountShortestCard

/-- THE TIED CARD OF 'laws.FnExactLayersOf'. -/
def fnExactLayersOfCard : Claim7 := { stood := { row := fnExactLayersOfRow, standIns := [], harness := (true, "e5a3927c11de1133bc06d39fba48097895d302e15cd12c08ec9c51659d077a04"), looks := false }, kinds := [], alts := [], laidByText := true, laidKinds := [.data, .pinned], laidTests := true, laidLooks := .later }
def FnExactLayersOfCardSaid : Prop := Claim7.holds Tryd.pinned (.plain (OpenSpec.ofChange fnExactLayersOfSpec)) fnExactLayersOfCard

/-- THE TIED CARD OF 'laws.FnExactAreMutual'. -/
def fnExactAreMutualCard : Claim7 := { stood := { row := fnExactAreMutualRow, standIns := [], harness := (true, "e5a3927c11de1133bc06d39fba48097895d302e15cd12c08ec9c51659d077a04"), looks := false }, kinds := [], alts := [], laidByText := true, laidKinds := [.data, .pinned], laidTests := true, laidLooks := .later }
def FnExactAreMutualCardSaid : Prop := Claim7.holds Tryd.pinned (.plain (OpenSpec.ofChange fnExactAreMutualSpec)) fnExactAreMutualCard

/-- THE TIED CARD OF 'laws.FnExactWordToCell'. -/
def fnExactWordToCellCard : Claim7 := { stood := { row := fnExactWordToCellRow, standIns := [], harness := (true, "e5a3927c11de1133bc06d39fba48097895d302e15cd12c08ec9c51659d077a04"), looks := false }, kinds := [], alts := [], laidByText := true, laidKinds := [.data, .pinned], laidTests := true, laidLooks := .later }
def FnExactWordToCellCardSaid : Prop := Claim7.holds Tryd.pinned (.plain (OpenSpec.ofChange fnExactWordToCellSpec)) fnExactWordToCellCard

/-- THE SECOND FORM's CARD OF 'laws.FnExactCountReached'. -/
def fnExactCountReachedUptoCard : Claim7 := { stood := { row := fnExactCountReachedUptoRow, standIns := [], harness := (true, "e5a3927c11de1133bc06d39fba48097895d302e15cd12c08ec9c51659d077a04"), looks := false }, kinds := [], alts := [], laidByText := true, laidKinds := [.data, .pinned], laidTests := true, laidLooks := .later }
def FnExactCountReachedUptoCardSaid : Prop := Claim7.holds Tryd.pinned (.plain (OpenSpec.upto fnExactCountReachedSpec)) fnExactCountReachedUptoCard

/-- THE SECOND FORM's CARD OF 'laws.FnExactIsReached'. -/
def fnExactIsReachedUptoCard : Claim7 := { stood := { row := fnExactIsReachedUptoRow, standIns := [], harness := (true, "e5a3927c11de1133bc06d39fba48097895d302e15cd12c08ec9c51659d077a04"), looks := false }, kinds := [], alts := [], laidByText := true, laidKinds := [.data, .pinned], laidTests := true, laidLooks := .later }
def FnExactIsReachedUptoCardSaid : Prop := Claim7.holds Tryd.pinned (.plain (OpenSpec.upto fnExactIsReachedSpec)) fnExactIsReachedUptoCard

/-- THE SECOND FORM's CARD OF 'laws.FnExactDistanceTo'. -/
def fnExactDistanceToUptoCard : Claim7 := { stood := { row := fnExactDistanceToUptoRow, standIns := [], harness := (true, "e5a3927c11de1133bc06d39fba48097895d302e15cd12c08ec9c51659d077a04"), looks := false }, kinds := [], alts := [], laidByText := true, laidKinds := [.data, .pinned], laidTests := true, laidLooks := .later }
def FnExactDistanceToUptoCardSaid : Prop := Claim7.holds Tryd.pinned (.plain (OpenSpec.upto fnExactDistanceToSpec)) fnExactDistanceToUptoCard

/-- THE SECOND FORM's CARD OF 'laws.FnExactShortestWord'. -/
def fnExactShortestWordUptoCard : Claim7 := { stood := { row := fnExactShortestWordUptoRow, standIns := [], harness := (true, "e5a3927c11de1133bc06d39fba48097895d302e15cd12c08ec9c51659d077a04"), looks := false }, kinds := [], alts := [], laidByText := true, laidKinds := [.data, .pinned], laidTests := true, laidLooks := .later }
def FnExactShortestWordUptoCardSaid : Prop := Claim7.holds Tryd.pinned (.plain (OpenSpec.upto fnExactShortestWordSpec)) fnExactShortestWordUptoCard

/-- THE SECOND FORM's CARD OF 'laws.FnExactCountShortest'. -/
def fnExactCountShortestUptoCard : Claim7 := { stood := { row := fnExactCountShortestUptoRow, standIns := [], harness := (true, "e5a3927c11de1133bc06d39fba48097895d302e15cd12c08ec9c51659d077a04"), looks := false }, kinds := [], alts := [], laidByText := true, laidKinds := [.data, .pinned], laidTests := true, laidLooks := .later }
def FnExactCountShortestUptoCardSaid : Prop := Claim7.holds Tryd.pinned (.plain (OpenSpec.upto fnExactCountShortestSpec)) fnExactCountShortestUptoCard

/-- THE SECOND FORM's CARD OF 'laws.FnExactLayersOf'. -/
def fnExactLayersOfUptoCard : Claim7 := { stood := { row := fnExactLayersOfUptoRow, standIns := [], harness := (true, "e5a3927c11de1133bc06d39fba48097895d302e15cd12c08ec9c51659d077a04"), looks := false }, kinds := [], alts := [], laidByText := true, laidKinds := [.data, .pinned], laidTests := true, laidLooks := .later }
def FnExactLayersOfUptoCardSaid : Prop := Claim7.holds Tryd.pinned (.plain (OpenSpec.upto fnExactLayersOfSpec)) fnExactLayersOfUptoCard

/-- THE SECOND FORM's CARD OF 'laws.FnExactAreMutual'. -/
def fnExactAreMutualUptoCard : Claim7 := { stood := { row := fnExactAreMutualUptoRow, standIns := [], harness := (true, "e5a3927c11de1133bc06d39fba48097895d302e15cd12c08ec9c51659d077a04"), looks := false }, kinds := [], alts := [], laidByText := true, laidKinds := [.data, .pinned], laidTests := true, laidLooks := .later }
def FnExactAreMutualUptoCardSaid : Prop := Claim7.holds Tryd.pinned (.plain (OpenSpec.upto fnExactAreMutualSpec)) fnExactAreMutualUptoCard

/-- THE SECOND FORM's CARD OF 'laws.FnExactWordToCell'. -/
def fnExactWordToCellUptoCard : Claim7 := { stood := { row := fnExactWordToCellUptoRow, standIns := [], harness := (true, "e5a3927c11de1133bc06d39fba48097895d302e15cd12c08ec9c51659d077a04"), looks := false }, kinds := [], alts := [], laidByText := true, laidKinds := [.data, .pinned], laidTests := true, laidLooks := .later }
def FnExactWordToCellUptoCardSaid : Prop := Claim7.holds Tryd.pinned (.plain (OpenSpec.upto fnExactWordToCellSpec)) fnExactWordToCellUptoCard
end Rows
end Go.Proofs.YtcldlnleiiloaaaDoor
