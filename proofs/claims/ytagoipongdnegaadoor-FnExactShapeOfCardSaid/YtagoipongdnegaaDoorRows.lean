/-
  NARROWER THAN 'FOR EVERY INPUT', by the rows' own cells (each row's printed sentence says how): FnExactShortestWord: laid · FnExactWordToCell: laid · FnExactBallsOf: laid · FnExactPieceAt: laid · FnExactShapeOf: laid · FnExactIsForm: laid · FnExactCellsOfForm: laid · FnExactFreeWays: laid · FnExactCanAdd: laid · FnExactAddCell: laid · FnExactTakeCell: laid · FnExactLastCells: laid · FnExactTurnForm: laid.
  DERIVED. THE GIVEN ROWS OF THIS SEAT. 13 by the template 'for every input the law returns true; each argument reads behind the call as it read before'; 0 by the template 'total and deterministic' (their statements: YtagoipongdnegaaDoorTotals.lean).
  GIVEN WITH THE SEED: the statements are not yours to turn. If you find one false, say at which input.
  Laid BY PROGRAM, IN A SANDBOX (cutbox-rows.mjs): the forced cells as the released guide's own fill.sh prints them over the translation d43972435af5c2c2… (all of the seat's roots in one cut). By AI agents, Wed Nov 11 2026. No macro, syntax, notation, axiom, sorry.
-/
import Derived.Test.YtagoipongdnegaaDoorChecked
import GoSem.PinnedTables
import GoSem.Claim
import GoSem.ClaimJoined
import GoSem.ClaimMapViews
import Derived.JoinedTies
import Derived.KernelRfl
namespace Go.Proofs.YtagoipongdnegaaDoor
/- THE CELL 'sum', in the pinned program and in every row, IS THE sha256 OF THE DUMP (.gsa) THAT YtagoipongdnegaaDoorProg.lean LOADS. Nothing in Lean hashes anything: it is a label: what it is worth is what the hold of that sum in a sandbox is worth. -/
noncomputable def Tryd.pinned : Pinned := { name := "ytagoipongdnegaadoor", sum := "d43972435af5c2c24b81983ced752e7053a6364b80f7c911e06251fbfc580f84", checked := Tryd.checked }
namespace Rows
def none {H : Type} : Left H := { results := [], args := [] }

/- WHAT THE LISTED PACKAGE-LEVEL VARIABLES READ AS WHEN THE CALL BEGINS. Each datum BY PROGRAM (the guide's laid-datum.mjs) off the statement by which the dump's own 'gosem.cut.vars' lays the variable. In a bare row this is a premise. The card (YtagoipongdnegaaDoorCards.lean) ties it to the program's text. -/
def laid_unicode_utf8_acceptRanges {H : Type} : DataW H := .agg [.agg [.lit (.int .u8 128), .lit (.int .u8 191)], .agg [.lit (.int .u8 160), .lit (.int .u8 191)], .agg [.lit (.int .u8 128), .lit (.int .u8 159)], .agg [.lit (.int .u8 144), .lit (.int .u8 191)], .agg [.lit (.int .u8 128), .lit (.int .u8 143)], .agg [.lit (.int .u8 0), .lit (.int .u8 0)], .agg [.lit (.int .u8 0), .lit (.int .u8 0)], .agg [.lit (.int .u8 0), .lit (.int .u8 0)], .agg [.lit (.int .u8 0), .lit (.int .u8 0)], .agg [.lit (.int .u8 0), .lit (.int .u8 0)], .agg [.lit (.int .u8 0), .lit (.int .u8 0)], .agg [.lit (.int .u8 0), .lit (.int .u8 0)], .agg [.lit (.int .u8 0), .lit (.int .u8 0)], .agg [.lit (.int .u8 0), .lit (.int .u8 0)], .agg [.lit (.int .u8 0), .lit (.int .u8 0)], .agg [.lit (.int .u8 0), .lit (.int .u8 0)]]
/-- One of Go's own tables, pinned by name: the form's constant. -/
def laid_unicode_utf8_first : DataW Unit := Go.Pinned.utf8First

/-- 'laws.FnExactShortestWord': WHATEVER THE INPUT: true; the input reads as it did. -/
def fnExactShortestWordSpec : ChangeSpec := { name := "fnExactShortestWord", fn := fun _ => fun
  | [d1, d2] => { results := [.lit (.bool true)], args := [d1, d2] }
  | _ => none }
def fnExactShortestWordRow : OpenClaim := { program := "ytagoipongdnegaadoor", sum := "d43972435af5c2c24b81983ced752e7053a6364b80f7c911e06251fbfc580f84", func := "loop.example/g01199/laws.FnExactShortestWord", spec := "fnExactShortestWord", inPlace := ["internal/bytealg.CountString", "internal/bytealg.IndexByteString", "internal/bytealg.IndexString"], unfollowed := true, recurses := true, named := ["unicode/utf8.first", "unicode/utf8.acceptRanges", "internal/bytealg.MaxLen"], plainKeys := false, apart := false, laid := [("unicode/utf8.acceptRanges", laid_unicode_utf8_acceptRanges), ("unicode/utf8.first", laid_unicode_utf8_first)] }
def FnExactShortestWordSaid : Prop := fnExactShortestWordRow.holds Tryd.pinned (OpenSpec.ofChange fnExactShortestWordSpec)

/-- ITS FALSE NEIGHBOUR: 'it returns false'. Refute it at one input. -/
def fnExactShortestWordWrong : ChangeSpec := { name := "fnExactShortestWord", fn := fun _ => fun
  | [d1, d2] => { results := [.lit (.bool false)], args := [d1, d2] }
  | _ => none }
def FnExactShortestWordWrongFalsely : Prop := fnExactShortestWordRow.holds Tryd.pinned (OpenSpec.ofChange fnExactShortestWordWrong)

/-- 'laws.FnExactWordToCell': WHATEVER THE INPUT: true; the input reads as it did. -/
def fnExactWordToCellSpec : ChangeSpec := { name := "fnExactWordToCell", fn := fun _ => fun
  | [d1, d2, d3] => { results := [.lit (.bool true)], args := [d1, d2, d3] }
  | _ => none }
def fnExactWordToCellRow : OpenClaim := { program := "ytagoipongdnegaadoor", sum := "d43972435af5c2c24b81983ced752e7053a6364b80f7c911e06251fbfc580f84", func := "loop.example/g01199/laws.FnExactWordToCell", spec := "fnExactWordToCell", inPlace := ["internal/bytealg.IndexByteString", "internal/bytealg.IndexString", "internal/bytealg.CountString"], unfollowed := true, recurses := true, named := ["internal/bytealg.MaxLen", "unicode/utf8.first", "unicode/utf8.acceptRanges"], plainKeys := false, apart := false, laid := [("unicode/utf8.acceptRanges", laid_unicode_utf8_acceptRanges), ("unicode/utf8.first", laid_unicode_utf8_first)] }
def FnExactWordToCellSaid : Prop := fnExactWordToCellRow.holds Tryd.pinned (OpenSpec.ofChange fnExactWordToCellSpec)

/-- ITS FALSE NEIGHBOUR: 'it returns false'. Refute it at one input. -/
def fnExactWordToCellWrong : ChangeSpec := { name := "fnExactWordToCell", fn := fun _ => fun
  | [d1, d2, d3] => { results := [.lit (.bool false)], args := [d1, d2, d3] }
  | _ => none }
def FnExactWordToCellWrongFalsely : Prop := fnExactWordToCellRow.holds Tryd.pinned (OpenSpec.ofChange fnExactWordToCellWrong)

/-- 'laws.FnExactBallsOf': WHATEVER THE INPUT: true; the input reads as it did. -/
def fnExactBallsOfSpec : ChangeSpec := { name := "fnExactBallsOf", fn := fun _ => fun
  | [d] => { results := [.lit (.bool true)], args := [d] }
  | _ => none }
def fnExactBallsOfRow : OpenClaim := { program := "ytagoipongdnegaadoor", sum := "d43972435af5c2c24b81983ced752e7053a6364b80f7c911e06251fbfc580f84", func := "loop.example/g01199/laws.FnExactBallsOf", spec := "fnExactBallsOf", inPlace := ["internal/bytealg.CountString", "internal/bytealg.IndexByteString", "internal/bytealg.IndexString"], named := ["unicode/utf8.first", "unicode/utf8.acceptRanges", "internal/bytealg.MaxLen"], plainKeys := false, apart := false, laid := [("unicode/utf8.acceptRanges", laid_unicode_utf8_acceptRanges), ("unicode/utf8.first", laid_unicode_utf8_first)] }
def FnExactBallsOfSaid : Prop := fnExactBallsOfRow.holds Tryd.pinned (OpenSpec.ofChange fnExactBallsOfSpec)

/-- ITS FALSE NEIGHBOUR: 'it returns false'. Refute it at one input. -/
def fnExactBallsOfWrong : ChangeSpec := { name := "fnExactBallsOf", fn := fun _ => fun
  | [d] => { results := [.lit (.bool false)], args := [d] }
  | _ => none }
def FnExactBallsOfWrongFalsely : Prop := fnExactBallsOfRow.holds Tryd.pinned (OpenSpec.ofChange fnExactBallsOfWrong)

/-- 'laws.FnExactPieceAt': WHATEVER THE INPUT: true; the input reads as it did. -/
def fnExactPieceAtSpec : ChangeSpec := { name := "fnExactPieceAt", fn := fun _ => fun
  | [d1, d2] => { results := [.lit (.bool true)], args := [d1, d2] }
  | _ => none }
def fnExactPieceAtRow : OpenClaim := { program := "ytagoipongdnegaadoor", sum := "d43972435af5c2c24b81983ced752e7053a6364b80f7c911e06251fbfc580f84", func := "loop.example/g01199/laws.FnExactPieceAt", spec := "fnExactPieceAt", inPlace := ["internal/bytealg.CountString", "internal/bytealg.IndexByteString", "internal/bytealg.IndexString"], named := ["unicode/utf8.first", "unicode/utf8.acceptRanges", "internal/bytealg.MaxLen"], plainKeys := false, apart := false, laid := [("unicode/utf8.acceptRanges", laid_unicode_utf8_acceptRanges), ("unicode/utf8.first", laid_unicode_utf8_first)] }
def FnExactPieceAtSaid : Prop := fnExactPieceAtRow.holds Tryd.pinned (OpenSpec.ofChange fnExactPieceAtSpec)

/-- ITS FALSE NEIGHBOUR: 'it returns false'. Refute it at one input. -/
def fnExactPieceAtWrong : ChangeSpec := { name := "fnExactPieceAt", fn := fun _ => fun
  | [d1, d2] => { results := [.lit (.bool false)], args := [d1, d2] }
  | _ => none }
def FnExactPieceAtWrongFalsely : Prop := fnExactPieceAtRow.holds Tryd.pinned (OpenSpec.ofChange fnExactPieceAtWrong)

/-- 'laws.FnExactShapeOf': WHATEVER THE INPUT: true; the input reads as it did. -/
def fnExactShapeOfSpec : ChangeSpec := { name := "fnExactShapeOf", fn := fun _ => fun
  | [d1, d2] => { results := [.lit (.bool true)], args := [d1, d2] }
  | _ => none }
def fnExactShapeOfRow : OpenClaim := { program := "ytagoipongdnegaadoor", sum := "d43972435af5c2c24b81983ced752e7053a6364b80f7c911e06251fbfc580f84", func := "loop.example/g01199/laws.FnExactShapeOf", spec := "fnExactShapeOf", inPlace := ["internal/bytealg.CountString", "internal/bytealg.IndexByteString", "internal/bytealg.IndexString", "internal/abi.NoEscape", "internal/bytealg.MakeNoZero"], named := ["unicode/utf8.first", "unicode/utf8.acceptRanges", "internal/bytealg.MaxLen"], plainKeys := false, apart := false, laid := [("unicode/utf8.acceptRanges", laid_unicode_utf8_acceptRanges), ("unicode/utf8.first", laid_unicode_utf8_first)] }
def FnExactShapeOfSaid : Prop := fnExactShapeOfRow.holds Tryd.pinned (OpenSpec.ofChange fnExactShapeOfSpec)

/-- ITS FALSE NEIGHBOUR: 'it returns false'. Refute it at one input. -/
def fnExactShapeOfWrong : ChangeSpec := { name := "fnExactShapeOf", fn := fun _ => fun
  | [d1, d2] => { results := [.lit (.bool false)], args := [d1, d2] }
  | _ => none }
def FnExactShapeOfWrongFalsely : Prop := fnExactShapeOfRow.holds Tryd.pinned (OpenSpec.ofChange fnExactShapeOfWrong)

/-- 'laws.FnExactIsForm': WHATEVER THE INPUT: true; the input reads as it did. -/
def fnExactIsFormSpec : ChangeSpec := { name := "fnExactIsForm", fn := fun _ => fun
  | [d] => { results := [.lit (.bool true)], args := [d] }
  | _ => none }
def fnExactIsFormRow : OpenClaim := { program := "ytagoipongdnegaadoor", sum := "d43972435af5c2c24b81983ced752e7053a6364b80f7c911e06251fbfc580f84", func := "loop.example/g01199/laws.FnExactIsForm", spec := "fnExactIsForm", inPlace := ["internal/bytealg.CountString", "internal/bytealg.IndexByteString", "internal/bytealg.IndexString"], named := ["unicode/utf8.first", "unicode/utf8.acceptRanges", "internal/bytealg.MaxLen"], plainKeys := false, apart := false, laid := [("unicode/utf8.acceptRanges", laid_unicode_utf8_acceptRanges), ("unicode/utf8.first", laid_unicode_utf8_first)] }
def FnExactIsFormSaid : Prop := fnExactIsFormRow.holds Tryd.pinned (OpenSpec.ofChange fnExactIsFormSpec)

/-- ITS FALSE NEIGHBOUR: 'it returns false'. Refute it at one input. -/
def fnExactIsFormWrong : ChangeSpec := { name := "fnExactIsForm", fn := fun _ => fun
  | [d] => { results := [.lit (.bool false)], args := [d] }
  | _ => none }
def FnExactIsFormWrongFalsely : Prop := fnExactIsFormRow.holds Tryd.pinned (OpenSpec.ofChange fnExactIsFormWrong)

/-- 'laws.FnExactCellsOfForm': WHATEVER THE INPUT: true; the input reads as it did. -/
def fnExactCellsOfFormSpec : ChangeSpec := { name := "fnExactCellsOfForm", fn := fun _ => fun
  | [d] => { results := [.lit (.bool true)], args := [d] }
  | _ => none }
def fnExactCellsOfFormRow : OpenClaim := { program := "ytagoipongdnegaadoor", sum := "d43972435af5c2c24b81983ced752e7053a6364b80f7c911e06251fbfc580f84", func := "loop.example/g01199/laws.FnExactCellsOfForm", spec := "fnExactCellsOfForm", inPlace := ["internal/bytealg.CountString", "internal/bytealg.IndexByteString", "internal/bytealg.IndexString"], named := ["unicode/utf8.first", "unicode/utf8.acceptRanges", "internal/bytealg.MaxLen"], plainKeys := false, apart := false, laid := [("unicode/utf8.acceptRanges", laid_unicode_utf8_acceptRanges), ("unicode/utf8.first", laid_unicode_utf8_first)] }
def FnExactCellsOfFormSaid : Prop := fnExactCellsOfFormRow.holds Tryd.pinned (OpenSpec.ofChange fnExactCellsOfFormSpec)

/-- ITS FALSE NEIGHBOUR: 'it returns false'. Refute it at one input. -/
def fnExactCellsOfFormWrong : ChangeSpec := { name := "fnExactCellsOfForm", fn := fun _ => fun
  | [d] => { results := [.lit (.bool false)], args := [d] }
  | _ => none }
def FnExactCellsOfFormWrongFalsely : Prop := fnExactCellsOfFormRow.holds Tryd.pinned (OpenSpec.ofChange fnExactCellsOfFormWrong)

/-- 'laws.FnExactFreeWays': WHATEVER THE INPUT: true; the input reads as it did. -/
def fnExactFreeWaysSpec : ChangeSpec := { name := "fnExactFreeWays", fn := fun _ => fun
  | [d1, d2] => { results := [.lit (.bool true)], args := [d1, d2] }
  | _ => none }
def fnExactFreeWaysRow : OpenClaim := { program := "ytagoipongdnegaadoor", sum := "d43972435af5c2c24b81983ced752e7053a6364b80f7c911e06251fbfc580f84", func := "loop.example/g01199/laws.FnExactFreeWays", spec := "fnExactFreeWays", inPlace := ["internal/bytealg.CountString", "internal/bytealg.IndexByteString", "internal/bytealg.IndexString"], unfollowed := true, recurses := true, named := ["unicode/utf8.first", "unicode/utf8.acceptRanges", "internal/bytealg.MaxLen"], plainKeys := false, apart := false, laid := [("unicode/utf8.acceptRanges", laid_unicode_utf8_acceptRanges), ("unicode/utf8.first", laid_unicode_utf8_first)] }
def FnExactFreeWaysSaid : Prop := fnExactFreeWaysRow.holds Tryd.pinned (OpenSpec.ofChange fnExactFreeWaysSpec)

/-- ITS FALSE NEIGHBOUR: 'it returns false'. Refute it at one input. -/
def fnExactFreeWaysWrong : ChangeSpec := { name := "fnExactFreeWays", fn := fun _ => fun
  | [d1, d2] => { results := [.lit (.bool false)], args := [d1, d2] }
  | _ => none }
def FnExactFreeWaysWrongFalsely : Prop := fnExactFreeWaysRow.holds Tryd.pinned (OpenSpec.ofChange fnExactFreeWaysWrong)

/-- 'laws.FnExactCanAdd': WHATEVER THE INPUT: true; the input reads as it did. -/
def fnExactCanAddSpec : ChangeSpec := { name := "fnExactCanAdd", fn := fun _ => fun
  | [d1, d2, d3] => { results := [.lit (.bool true)], args := [d1, d2, d3] }
  | _ => none }
def fnExactCanAddRow : OpenClaim := { program := "ytagoipongdnegaadoor", sum := "d43972435af5c2c24b81983ced752e7053a6364b80f7c911e06251fbfc580f84", func := "loop.example/g01199/laws.FnExactCanAdd", spec := "fnExactCanAdd", inPlace := ["internal/bytealg.CountString", "internal/bytealg.IndexByteString", "internal/bytealg.IndexString"], unfollowed := true, recurses := true, named := ["unicode/utf8.first", "unicode/utf8.acceptRanges", "internal/bytealg.MaxLen"], plainKeys := false, apart := false, laid := [("unicode/utf8.acceptRanges", laid_unicode_utf8_acceptRanges), ("unicode/utf8.first", laid_unicode_utf8_first)] }
def FnExactCanAddSaid : Prop := fnExactCanAddRow.holds Tryd.pinned (OpenSpec.ofChange fnExactCanAddSpec)

/-- ITS FALSE NEIGHBOUR: 'it returns false'. Refute it at one input. -/
def fnExactCanAddWrong : ChangeSpec := { name := "fnExactCanAdd", fn := fun _ => fun
  | [d1, d2, d3] => { results := [.lit (.bool false)], args := [d1, d2, d3] }
  | _ => none }
def FnExactCanAddWrongFalsely : Prop := fnExactCanAddRow.holds Tryd.pinned (OpenSpec.ofChange fnExactCanAddWrong)

/-- 'laws.FnExactAddCell': WHATEVER THE INPUT: true; the input reads as it did. -/
def fnExactAddCellSpec : ChangeSpec := { name := "fnExactAddCell", fn := fun _ => fun
  | [d1, d2] => { results := [.lit (.bool true)], args := [d1, d2] }
  | _ => none }
def fnExactAddCellRow : OpenClaim := { program := "ytagoipongdnegaadoor", sum := "d43972435af5c2c24b81983ced752e7053a6364b80f7c911e06251fbfc580f84", func := "loop.example/g01199/laws.FnExactAddCell", spec := "fnExactAddCell", inPlace := ["internal/bytealg.CountString", "internal/bytealg.IndexByteString", "internal/bytealg.IndexString", "internal/abi.NoEscape", "internal/bytealg.MakeNoZero"], unfollowed := true, recurses := true, named := ["unicode/utf8.first", "unicode/utf8.acceptRanges", "internal/bytealg.MaxLen"], plainKeys := false, apart := false, laid := [("unicode/utf8.acceptRanges", laid_unicode_utf8_acceptRanges), ("unicode/utf8.first", laid_unicode_utf8_first)] }
def FnExactAddCellSaid : Prop := fnExactAddCellRow.holds Tryd.pinned (OpenSpec.ofChange fnExactAddCellSpec)

/-- ITS FALSE NEIGHBOUR: 'it returns false'. Refute it at one input. -/
def fnExactAddCellWrong : ChangeSpec := { name := "fnExactAddCell", fn := fun _ => fun
  | [d1, d2] => { results := [.lit (.bool false)], args := [d1, d2] }
  | _ => none }
def FnExactAddCellWrongFalsely : Prop := fnExactAddCellRow.holds Tryd.pinned (OpenSpec.ofChange fnExactAddCellWrong)

/-- 'laws.FnExactTakeCell': WHATEVER THE INPUT: true; the input reads as it did. -/
def fnExactTakeCellSpec : ChangeSpec := { name := "fnExactTakeCell", fn := fun _ => fun
  | [d1, d2] => { results := [.lit (.bool true)], args := [d1, d2] }
  | _ => none }
def fnExactTakeCellRow : OpenClaim := { program := "ytagoipongdnegaadoor", sum := "d43972435af5c2c24b81983ced752e7053a6364b80f7c911e06251fbfc580f84", func := "loop.example/g01199/laws.FnExactTakeCell", spec := "fnExactTakeCell", inPlace := ["internal/bytealg.CountString", "internal/bytealg.IndexByteString", "internal/bytealg.IndexString", "internal/abi.NoEscape", "internal/bytealg.MakeNoZero"], unfollowed := true, recurses := true, named := ["unicode/utf8.first", "unicode/utf8.acceptRanges", "internal/bytealg.MaxLen"], plainKeys := false, apart := false, laid := [("unicode/utf8.acceptRanges", laid_unicode_utf8_acceptRanges), ("unicode/utf8.first", laid_unicode_utf8_first)] }
def FnExactTakeCellSaid : Prop := fnExactTakeCellRow.holds Tryd.pinned (OpenSpec.ofChange fnExactTakeCellSpec)

/-- ITS FALSE NEIGHBOUR: 'it returns false'. Refute it at one input. -/
def fnExactTakeCellWrong : ChangeSpec := { name := "fnExactTakeCell", fn := fun _ => fun
  | [d1, d2] => { results := [.lit (.bool false)], args := [d1, d2] }
  | _ => none }
def FnExactTakeCellWrongFalsely : Prop := fnExactTakeCellRow.holds Tryd.pinned (OpenSpec.ofChange fnExactTakeCellWrong)

/-- 'laws.FnExactLastCells': WHATEVER THE INPUT: true; the input reads as it did. -/
def fnExactLastCellsSpec : ChangeSpec := { name := "fnExactLastCells", fn := fun _ => fun
  | [d] => { results := [.lit (.bool true)], args := [d] }
  | _ => none }
def fnExactLastCellsRow : OpenClaim := { program := "ytagoipongdnegaadoor", sum := "d43972435af5c2c24b81983ced752e7053a6364b80f7c911e06251fbfc580f84", func := "loop.example/g01199/laws.FnExactLastCells", spec := "fnExactLastCells", inPlace := ["internal/bytealg.CountString", "internal/bytealg.IndexByteString", "internal/bytealg.IndexString", "internal/abi.NoEscape", "internal/bytealg.MakeNoZero"], unfollowed := true, recurses := true, named := ["unicode/utf8.first", "unicode/utf8.acceptRanges", "internal/bytealg.MaxLen"], plainKeys := false, apart := false, laid := [("unicode/utf8.acceptRanges", laid_unicode_utf8_acceptRanges), ("unicode/utf8.first", laid_unicode_utf8_first)] }
def FnExactLastCellsSaid : Prop := fnExactLastCellsRow.holds Tryd.pinned (OpenSpec.ofChange fnExactLastCellsSpec)

/-- ITS FALSE NEIGHBOUR: 'it returns false'. Refute it at one input. -/
def fnExactLastCellsWrong : ChangeSpec := { name := "fnExactLastCells", fn := fun _ => fun
  | [d] => { results := [.lit (.bool false)], args := [d] }
  | _ => none }
def FnExactLastCellsWrongFalsely : Prop := fnExactLastCellsRow.holds Tryd.pinned (OpenSpec.ofChange fnExactLastCellsWrong)

/-- 'laws.FnExactTurnForm': WHATEVER THE INPUT: true; the input reads as it did. -/
def fnExactTurnFormSpec : ChangeSpec := { name := "fnExactTurnForm", fn := fun _ => fun
  | [d] => { results := [.lit (.bool true)], args := [d] }
  | _ => none }
def fnExactTurnFormRow : OpenClaim := { program := "ytagoipongdnegaadoor", sum := "d43972435af5c2c24b81983ced752e7053a6364b80f7c911e06251fbfc580f84", func := "loop.example/g01199/laws.FnExactTurnForm", spec := "fnExactTurnForm", inPlace := ["internal/bytealg.CountString", "internal/bytealg.IndexByteString", "internal/bytealg.IndexString", "internal/abi.NoEscape", "internal/bytealg.MakeNoZero"], named := ["unicode/utf8.first", "unicode/utf8.acceptRanges", "internal/bytealg.MaxLen"], plainKeys := false, apart := false, laid := [("unicode/utf8.acceptRanges", laid_unicode_utf8_acceptRanges), ("unicode/utf8.first", laid_unicode_utf8_first)] }
def FnExactTurnFormSaid : Prop := fnExactTurnFormRow.holds Tryd.pinned (OpenSpec.ofChange fnExactTurnFormSpec)

/-- ITS FALSE NEIGHBOUR: 'it returns false'. Refute it at one input. -/
def fnExactTurnFormWrong : ChangeSpec := { name := "fnExactTurnForm", fn := fun _ => fun
  | [d] => { results := [.lit (.bool false)], args := [d] }
  | _ => none }
def FnExactTurnFormWrongFalsely : Prop := fnExactTurnFormRow.holds Tryd.pinned (OpenSpec.ofChange fnExactTurnFormWrong)

/- THE SECOND FORM. 'bulk': how many values and letters a reading holds, each counted each time it is reached (what is shared counts as often as it is met; a slice's spare places count too). A statement '..UptoSaid' is the law's where the arguments, and the package variables that the reading takes, are together of bulk at most 1048576: NARROWER than '..Said'. Prove '..Said' where nothing that the law and all that it calls make is longer than what came in: it says more and counts as full. Else prove '..UptoSaid'. A law counts once. -/
mutual
def uptoBulk {H : Type} : DataW H → Nat
  | .lit (.string bytes) => bytes.length + 1
  | .lit _ => 1
  | .nil => 1
  | .ptr d => uptoBulk d + 1
  | .slice elems spare => uptoBulkAll elems + uptoBulkAll spare + 1
  | .agg parts => uptoBulkAll parts + 1
  | .iface _ d => uptoBulk d + 1
  | .map entries => uptoBulkEntries entries + 1
  | .held _ => 1
def uptoBulkAll {H : Type} : List (DataW H) → Nat
  | [] => 0
  | d :: r => uptoBulk d + uptoBulkAll r
def uptoBulkEntries {H : Type} : List (Lit × DataW H) → Nat
  | [] => 0
  | x :: r => uptoBulkEntry x + uptoBulkEntries r
def uptoBulkEntry {H : Type} : Lit × DataW H → Nat
  | (.string bytes, d) => bytes.length + uptoBulk d + 1
  | (_, d) => uptoBulk d + 1
 end
def uptoSmall : (H : Type) → List (DataW H) → Bool := fun _ ds => decide (uptoBulkAll ds ≤ 1048576)
def OpenSpec.upto (s : _root_.Go.ChangeSpec) : _root_.Go.OpenSpec := { _root_.Go.OpenSpec.ofChange s with cond := some uptoSmall }

/-- 'laws.FnExactShortestWord', WHERE WHAT IT READS IS OF BULK AT MOST 1048576: true; the input reads as it did. -/
def fnExactShortestWordUptoRow : OpenClaim := { program := "ytagoipongdnegaadoor", sum := "d43972435af5c2c24b81983ced752e7053a6364b80f7c911e06251fbfc580f84", func := "loop.example/g01199/laws.FnExactShortestWord", spec := "fnExactShortestWord", inPlace := ["internal/bytealg.CountString", "internal/bytealg.IndexByteString", "internal/bytealg.IndexString"], unfollowed := true, recurses := true, named := ["unicode/utf8.first", "unicode/utf8.acceptRanges", "internal/bytealg.MaxLen"], plainKeys := false, apart := false, laid := [("unicode/utf8.acceptRanges", laid_unicode_utf8_acceptRanges), ("unicode/utf8.first", laid_unicode_utf8_first)], narrowed := true }
def FnExactShortestWordUptoSaid : Prop := fnExactShortestWordUptoRow.holds Tryd.pinned (OpenSpec.upto fnExactShortestWordSpec)

/-- 'laws.FnExactWordToCell', WHERE WHAT IT READS IS OF BULK AT MOST 1048576: true; the input reads as it did. -/
def fnExactWordToCellUptoRow : OpenClaim := { program := "ytagoipongdnegaadoor", sum := "d43972435af5c2c24b81983ced752e7053a6364b80f7c911e06251fbfc580f84", func := "loop.example/g01199/laws.FnExactWordToCell", spec := "fnExactWordToCell", inPlace := ["internal/bytealg.IndexByteString", "internal/bytealg.IndexString", "internal/bytealg.CountString"], unfollowed := true, recurses := true, named := ["internal/bytealg.MaxLen", "unicode/utf8.first", "unicode/utf8.acceptRanges"], plainKeys := false, apart := false, laid := [("unicode/utf8.acceptRanges", laid_unicode_utf8_acceptRanges), ("unicode/utf8.first", laid_unicode_utf8_first)], narrowed := true }
def FnExactWordToCellUptoSaid : Prop := fnExactWordToCellUptoRow.holds Tryd.pinned (OpenSpec.upto fnExactWordToCellSpec)

/-- 'laws.FnExactBallsOf', WHERE WHAT IT READS IS OF BULK AT MOST 1048576: true; the input reads as it did. -/
def fnExactBallsOfUptoRow : OpenClaim := { program := "ytagoipongdnegaadoor", sum := "d43972435af5c2c24b81983ced752e7053a6364b80f7c911e06251fbfc580f84", func := "loop.example/g01199/laws.FnExactBallsOf", spec := "fnExactBallsOf", inPlace := ["internal/bytealg.CountString", "internal/bytealg.IndexByteString", "internal/bytealg.IndexString"], named := ["unicode/utf8.first", "unicode/utf8.acceptRanges", "internal/bytealg.MaxLen"], plainKeys := false, apart := false, laid := [("unicode/utf8.acceptRanges", laid_unicode_utf8_acceptRanges), ("unicode/utf8.first", laid_unicode_utf8_first)], narrowed := true }
def FnExactBallsOfUptoSaid : Prop := fnExactBallsOfUptoRow.holds Tryd.pinned (OpenSpec.upto fnExactBallsOfSpec)

/-- 'laws.FnExactPieceAt', WHERE WHAT IT READS IS OF BULK AT MOST 1048576: true; the input reads as it did. -/
def fnExactPieceAtUptoRow : OpenClaim := { program := "ytagoipongdnegaadoor", sum := "d43972435af5c2c24b81983ced752e7053a6364b80f7c911e06251fbfc580f84", func := "loop.example/g01199/laws.FnExactPieceAt", spec := "fnExactPieceAt", inPlace := ["internal/bytealg.CountString", "internal/bytealg.IndexByteString", "internal/bytealg.IndexString"], named := ["unicode/utf8.first", "unicode/utf8.acceptRanges", "internal/bytealg.MaxLen"], plainKeys := false, apart := false, laid := [("unicode/utf8.acceptRanges", laid_unicode_utf8_acceptRanges), ("unicode/utf8.first", laid_unicode_utf8_first)], narrowed := true }
def FnExactPieceAtUptoSaid : Prop := fnExactPieceAtUptoRow.holds Tryd.pinned (OpenSpec.upto fnExactPieceAtSpec)

/-- 'laws.FnExactShapeOf', WHERE WHAT IT READS IS OF BULK AT MOST 1048576: true; the input reads as it did. -/
def fnExactShapeOfUptoRow : OpenClaim := { program := "ytagoipongdnegaadoor", sum := "d43972435af5c2c24b81983ced752e7053a6364b80f7c911e06251fbfc580f84", func := "loop.example/g01199/laws.FnExactShapeOf", spec := "fnExactShapeOf", inPlace := ["internal/bytealg.CountString", "internal/bytealg.IndexByteString", "internal/bytealg.IndexString", "internal/abi.NoEscape", "internal/bytealg.MakeNoZero"], named := ["unicode/utf8.first", "unicode/utf8.acceptRanges", "internal/bytealg.MaxLen"], plainKeys := false, apart := false, laid := [("unicode/utf8.acceptRanges", laid_unicode_utf8_acceptRanges), ("unicode/utf8.first", laid_unicode_utf8_first)], narrowed := true }
def FnExactShapeOfUptoSaid : Prop := fnExactShapeOfUptoRow.holds Tryd.pinned (OpenSpec.upto fnExactShapeOfSpec)

/-- 'laws.FnExactIsForm', WHERE WHAT IT READS IS OF BULK AT MOST 1048576: true; the input reads as it did. -/
def fnExactIsFormUptoRow : OpenClaim := { program := "ytagoipongdnegaadoor", sum := "d43972435af5c2c24b81983ced752e7053a6364b80f7c911e06251fbfc580f84", func := "loop.example/g01199/laws.FnExactIsForm", spec := "fnExactIsForm", inPlace := ["internal/bytealg.CountString", "internal/bytealg.IndexByteString", "internal/bytealg.IndexString"], named := ["unicode/utf8.first", "unicode/utf8.acceptRanges", "internal/bytealg.MaxLen"], plainKeys := false, apart := false, laid := [("unicode/utf8.acceptRanges", laid_unicode_utf8_acceptRanges), ("unicode/utf8.first", laid_unicode_utf8_first)], narrowed := true }
def FnExactIsFormUptoSaid : Prop := fnExactIsFormUptoRow.holds Tryd.pinned (OpenSpec.upto fnExactIsFormSpec)

/-- 'laws.FnExactCellsOfForm', WHERE WHAT IT READS IS OF BULK AT MOST 1048576: true; the input reads as it did. -/
def fnExactCellsOfFormUptoRow : OpenClaim := { program := "ytagoipongdnegaadoor", sum := "d43972435af5c2c24b81983ced752e7053a6364b80f7c911e06251fbfc580f84", func := "loop.example/g01199/laws.FnExactCellsOfForm", spec := "fnExactCellsOfForm", inPlace := ["internal/bytealg.CountString", "internal/bytealg.IndexByteString", "internal/bytealg.IndexString"], named := ["unicode/utf8.first", "unicode/utf8.acceptRanges", "internal/bytealg.MaxLen"], plainKeys := false, apart := false, laid := [("unicode/utf8.acceptRanges", laid_unicode_utf8_acceptRanges), ("unicode/utf8.first", laid_unicode_utf8_first)], narrowed := true }
def FnExactCellsOfFormUptoSaid : Prop := fnExactCellsOfFormUptoRow.holds Tryd.pinned (OpenSpec.upto fnExactCellsOfFormSpec)

/-- 'laws.FnExactFreeWays', WHERE WHAT IT READS IS OF BULK AT MOST 1048576: true; the input reads as it did. -/
def fnExactFreeWaysUptoRow : OpenClaim := { program := "ytagoipongdnegaadoor", sum := "d43972435af5c2c24b81983ced752e7053a6364b80f7c911e06251fbfc580f84", func := "loop.example/g01199/laws.FnExactFreeWays", spec := "fnExactFreeWays", inPlace := ["internal/bytealg.CountString", "internal/bytealg.IndexByteString", "internal/bytealg.IndexString"], unfollowed := true, recurses := true, named := ["unicode/utf8.first", "unicode/utf8.acceptRanges", "internal/bytealg.MaxLen"], plainKeys := false, apart := false, laid := [("unicode/utf8.acceptRanges", laid_unicode_utf8_acceptRanges), ("unicode/utf8.first", laid_unicode_utf8_first)], narrowed := true }
def FnExactFreeWaysUptoSaid : Prop := fnExactFreeWaysUptoRow.holds Tryd.pinned (OpenSpec.upto fnExactFreeWaysSpec)

/-- 'laws.FnExactCanAdd', WHERE WHAT IT READS IS OF BULK AT MOST 1048576: true; the input reads as it did. -/
def fnExactCanAddUptoRow : OpenClaim := { program := "ytagoipongdnegaadoor", sum := "d43972435af5c2c24b81983ced752e7053a6364b80f7c911e06251fbfc580f84", func := "loop.example/g01199/laws.FnExactCanAdd", spec := "fnExactCanAdd", inPlace := ["internal/bytealg.CountString", "internal/bytealg.IndexByteString", "internal/bytealg.IndexString"], unfollowed := true, recurses := true, named := ["unicode/utf8.first", "unicode/utf8.acceptRanges", "internal/bytealg.MaxLen"], plainKeys := false, apart := false, laid := [("unicode/utf8.acceptRanges", laid_unicode_utf8_acceptRanges), ("unicode/utf8.first", laid_unicode_utf8_first)], narrowed := true }
def FnExactCanAddUptoSaid : Prop := fnExactCanAddUptoRow.holds Tryd.pinned (OpenSpec.upto fnExactCanAddSpec)

/-- 'laws.FnExactAddCell', WHERE WHAT IT READS IS OF BULK AT MOST 1048576: true; the input reads as it did. -/
def fnExactAddCellUptoRow : OpenClaim := { program := "ytagoipongdnegaadoor", sum := "d43972435af5c2c24b81983ced752e7053a6364b80f7c911e06251fbfc580f84", func := "loop.example/g01199/laws.FnExactAddCell", spec := "fnExactAddCell", inPlace := ["internal/bytealg.CountString", "internal/bytealg.IndexByteString", "internal/bytealg.IndexString", "internal/abi.NoEscape", "internal/bytealg.MakeNoZero"], unfollowed := true, recurses := true, named := ["unicode/utf8.first", "unicode/utf8.acceptRanges", "internal/bytealg.MaxLen"], plainKeys := false, apart := false, laid := [("unicode/utf8.acceptRanges", laid_unicode_utf8_acceptRanges), ("unicode/utf8.first", laid_unicode_utf8_first)], narrowed := true }
def FnExactAddCellUptoSaid : Prop := fnExactAddCellUptoRow.holds Tryd.pinned (OpenSpec.upto fnExactAddCellSpec)

/-- 'laws.FnExactTakeCell', WHERE WHAT IT READS IS OF BULK AT MOST 1048576: true; the input reads as it did. -/
def fnExactTakeCellUptoRow : OpenClaim := { program := "ytagoipongdnegaadoor", sum := "d43972435af5c2c24b81983ced752e7053a6364b80f7c911e06251fbfc580f84", func := "loop.example/g01199/laws.FnExactTakeCell", spec := "fnExactTakeCell", inPlace := ["internal/bytealg.CountString", "internal/bytealg.IndexByteString", "internal/bytealg.IndexString", "internal/abi.NoEscape", "internal/bytealg.MakeNoZero"], unfollowed := true, recurses := true, named := ["unicode/utf8.first", "unicode/utf8.acceptRanges", "internal/bytealg.MaxLen"], plainKeys := false, apart := false, laid := [("unicode/utf8.acceptRanges", laid_unicode_utf8_acceptRanges), ("unicode/utf8.first", laid_unicode_utf8_first)], narrowed := true }
def FnExactTakeCellUptoSaid : Prop := fnExactTakeCellUptoRow.holds Tryd.pinned (OpenSpec.upto fnExactTakeCellSpec)

/-- 'laws.FnExactLastCells', WHERE WHAT IT READS IS OF BULK AT MOST 1048576: true; the input reads as it did. -/
def fnExactLastCellsUptoRow : OpenClaim := { program := "ytagoipongdnegaadoor", sum := "d43972435af5c2c24b81983ced752e7053a6364b80f7c911e06251fbfc580f84", func := "loop.example/g01199/laws.FnExactLastCells", spec := "fnExactLastCells", inPlace := ["internal/bytealg.CountString", "internal/bytealg.IndexByteString", "internal/bytealg.IndexString", "internal/abi.NoEscape", "internal/bytealg.MakeNoZero"], unfollowed := true, recurses := true, named := ["unicode/utf8.first", "unicode/utf8.acceptRanges", "internal/bytealg.MaxLen"], plainKeys := false, apart := false, laid := [("unicode/utf8.acceptRanges", laid_unicode_utf8_acceptRanges), ("unicode/utf8.first", laid_unicode_utf8_first)], narrowed := true }
def FnExactLastCellsUptoSaid : Prop := fnExactLastCellsUptoRow.holds Tryd.pinned (OpenSpec.upto fnExactLastCellsSpec)

/-- 'laws.FnExactTurnForm', WHERE WHAT IT READS IS OF BULK AT MOST 1048576: true; the input reads as it did. -/
def fnExactTurnFormUptoRow : OpenClaim := { program := "ytagoipongdnegaadoor", sum := "d43972435af5c2c24b81983ced752e7053a6364b80f7c911e06251fbfc580f84", func := "loop.example/g01199/laws.FnExactTurnForm", spec := "fnExactTurnForm", inPlace := ["internal/bytealg.CountString", "internal/bytealg.IndexByteString", "internal/bytealg.IndexString", "internal/abi.NoEscape", "internal/bytealg.MakeNoZero"], named := ["unicode/utf8.first", "unicode/utf8.acceptRanges", "internal/bytealg.MaxLen"], plainKeys := false, apart := false, laid := [("unicode/utf8.acceptRanges", laid_unicode_utf8_acceptRanges), ("unicode/utf8.first", laid_unicode_utf8_first)], narrowed := true }
def FnExactTurnFormUptoSaid : Prop := fnExactTurnFormUptoRow.holds Tryd.pinned (OpenSpec.upto fnExactTurnFormSpec)

end Rows
end Go.Proofs.YtagoipongdnegaaDoor
