/-
  NARROWER THAN 'FOR EVERY INPUT', by the rows' own cells (each row's printed sentence says how): FnExactTiltTray: laid · FnExactStepTray: laid · FnExactStepsOfTilt: laid · FnExactStillWays: laid · FnExactStretchesOf: laid · FnExactMovedBalls: laid · FnExactMovedCells: laid · FnExactCountBefore: laid · FnExactPathOfBall: laid · FnExactPeriodOfWord: laid · FnExactAreSameWords: laid.
  DERIVED. THE GIVEN ROWS OF THIS SEAT. 11 by the template 'for every input the law returns true; each argument reads behind the call as it read before'; 0 by the template 'total and deterministic' (their statements: YtppjlcmfmbpkjaaDoorTotals.lean).
  GIVEN WITH THE SEED: the statements are not yours to turn. If you find one false, say at which input.
  Laid BY PROGRAM, IN A SANDBOX (cutbox-rows.mjs): the forced cells as the released guide's own fill.sh prints them over the translation ef6687fdddf89d17… (all of the seat's roots in one cut). By AI agents, Wed Nov 11 2026. No macro, syntax, notation, axiom, sorry.
-/
import Derived.Test.YtppjlcmfmbpkjaaDoorChecked
import GoSem.PinnedTables
import GoSem.Claim
import GoSem.ClaimJoined
import GoSem.ClaimMapViews
import Derived.JoinedTies
import Derived.KernelRfl
namespace Go.Proofs.YtppjlcmfmbpkjaaDoor
/- THE CELL 'sum', in the pinned program and in every row, IS THE sha256 OF THE DUMP (.gsa) THAT YtppjlcmfmbpkjaaDoorProg.lean LOADS. Nothing in Lean hashes anything: it is a label: what it is worth is what the hold of that sum in a sandbox is worth. -/
noncomputable def Tryd.pinned : Pinned := { name := "ytppjlcmfmbpkjaadoor", sum := "ef6687fdddf89d17f044999a0396ce6095571fc1d971c163c7aa7ac1050ef7a3", checked := Tryd.checked }
namespace Rows
def none {H : Type} : Left H := { results := [], args := [] }

/- WHAT THE LISTED PACKAGE-LEVEL VARIABLES READ AS WHEN THE CALL BEGINS. Each datum BY PROGRAM (the guide's laid-datum.mjs) off the statement by which the dump's own 'gosem.cut.vars' lays the variable. In a bare row this is a premise. The card (YtppjlcmfmbpkjaaDoorCards.lean) ties it to the program's text. -/
def laid_unicode_utf8_acceptRanges {H : Type} : DataW H := .agg [.agg [.lit (.int .u8 128), .lit (.int .u8 191)], .agg [.lit (.int .u8 160), .lit (.int .u8 191)], .agg [.lit (.int .u8 128), .lit (.int .u8 159)], .agg [.lit (.int .u8 144), .lit (.int .u8 191)], .agg [.lit (.int .u8 128), .lit (.int .u8 143)], .agg [.lit (.int .u8 0), .lit (.int .u8 0)], .agg [.lit (.int .u8 0), .lit (.int .u8 0)], .agg [.lit (.int .u8 0), .lit (.int .u8 0)], .agg [.lit (.int .u8 0), .lit (.int .u8 0)], .agg [.lit (.int .u8 0), .lit (.int .u8 0)], .agg [.lit (.int .u8 0), .lit (.int .u8 0)], .agg [.lit (.int .u8 0), .lit (.int .u8 0)], .agg [.lit (.int .u8 0), .lit (.int .u8 0)], .agg [.lit (.int .u8 0), .lit (.int .u8 0)], .agg [.lit (.int .u8 0), .lit (.int .u8 0)], .agg [.lit (.int .u8 0), .lit (.int .u8 0)]]
/-- One of Go's own tables, pinned by name: the form's constant. -/
def laid_unicode_utf8_first : DataW Unit := Go.Pinned.utf8First

/-- 'laws.FnExactTiltTray': WHATEVER THE INPUT: true; the input reads as it did. -/
def fnExactTiltTraySpec : ChangeSpec := { name := "fnExactTiltTray", fn := fun _ => fun
  | [d1, d2] => { results := [.lit (.bool true)], args := [d1, d2] }
  | _ => none }
def fnExactTiltTrayRow : OpenClaim := { program := "ytppjlcmfmbpkjaadoor", sum := "ef6687fdddf89d17f044999a0396ce6095571fc1d971c163c7aa7ac1050ef7a3", func := "loop.example/g01199/laws.FnExactTiltTray", spec := "fnExactTiltTray", inPlace := ["internal/bytealg.CountString", "internal/bytealg.IndexByteString", "internal/bytealg.IndexString", "internal/abi.NoEscape", "internal/bytealg.MakeNoZero"], unfollowed := true, recurses := true, named := ["unicode/utf8.first", "unicode/utf8.acceptRanges", "internal/bytealg.MaxLen"], apart := false, laid := [("unicode/utf8.acceptRanges", laid_unicode_utf8_acceptRanges), ("unicode/utf8.first", laid_unicode_utf8_first)] }
def FnExactTiltTraySaid : Prop := fnExactTiltTrayRow.holds Tryd.pinned (OpenSpec.ofChange fnExactTiltTraySpec)

/-- ITS FALSE NEIGHBOUR: 'it returns false'. Refute it at one input. -/
def fnExactTiltTrayWrong : ChangeSpec := { name := "fnExactTiltTray", fn := fun _ => fun
  | [d1, d2] => { results := [.lit (.bool false)], args := [d1, d2] }
  | _ => none }
def FnExactTiltTrayWrongFalsely : Prop := fnExactTiltTrayRow.holds Tryd.pinned (OpenSpec.ofChange fnExactTiltTrayWrong)

/-- 'laws.FnExactStepTray': WHATEVER THE INPUT: true; the input reads as it did. -/
def fnExactStepTraySpec : ChangeSpec := { name := "fnExactStepTray", fn := fun _ => fun
  | [d1, d2] => { results := [.lit (.bool true)], args := [d1, d2] }
  | _ => none }
def fnExactStepTrayRow : OpenClaim := { program := "ytppjlcmfmbpkjaadoor", sum := "ef6687fdddf89d17f044999a0396ce6095571fc1d971c163c7aa7ac1050ef7a3", func := "loop.example/g01199/laws.FnExactStepTray", spec := "fnExactStepTray", inPlace := ["internal/bytealg.CountString", "internal/bytealg.IndexByteString", "internal/bytealg.IndexString", "internal/abi.NoEscape", "internal/bytealg.MakeNoZero"], unfollowed := true, recurses := true, named := ["unicode/utf8.first", "unicode/utf8.acceptRanges", "internal/bytealg.MaxLen"], apart := false, laid := [("unicode/utf8.acceptRanges", laid_unicode_utf8_acceptRanges), ("unicode/utf8.first", laid_unicode_utf8_first)] }
def FnExactStepTraySaid : Prop := fnExactStepTrayRow.holds Tryd.pinned (OpenSpec.ofChange fnExactStepTraySpec)

/-- ITS FALSE NEIGHBOUR: 'it returns false'. Refute it at one input. -/
def fnExactStepTrayWrong : ChangeSpec := { name := "fnExactStepTray", fn := fun _ => fun
  | [d1, d2] => { results := [.lit (.bool false)], args := [d1, d2] }
  | _ => none }
def FnExactStepTrayWrongFalsely : Prop := fnExactStepTrayRow.holds Tryd.pinned (OpenSpec.ofChange fnExactStepTrayWrong)

/-- 'laws.FnExactStepsOfTilt': WHATEVER THE INPUT: true; the input reads as it did. -/
def fnExactStepsOfTiltSpec : ChangeSpec := { name := "fnExactStepsOfTilt", fn := fun _ => fun
  | [d1, d2] => { results := [.lit (.bool true)], args := [d1, d2] }
  | _ => none }
def fnExactStepsOfTiltRow : OpenClaim := { program := "ytppjlcmfmbpkjaadoor", sum := "ef6687fdddf89d17f044999a0396ce6095571fc1d971c163c7aa7ac1050ef7a3", func := "loop.example/g01199/laws.FnExactStepsOfTilt", spec := "fnExactStepsOfTilt", inPlace := ["internal/bytealg.CountString", "internal/bytealg.IndexByteString", "internal/bytealg.IndexString"], unfollowed := true, recurses := true, named := ["unicode/utf8.first", "unicode/utf8.acceptRanges", "internal/bytealg.MaxLen"], apart := false, laid := [("unicode/utf8.acceptRanges", laid_unicode_utf8_acceptRanges), ("unicode/utf8.first", laid_unicode_utf8_first)] }
def FnExactStepsOfTiltSaid : Prop := fnExactStepsOfTiltRow.holds Tryd.pinned (OpenSpec.ofChange fnExactStepsOfTiltSpec)

/-- ITS FALSE NEIGHBOUR: 'it returns false'. Refute it at one input. -/
def fnExactStepsOfTiltWrong : ChangeSpec := { name := "fnExactStepsOfTilt", fn := fun _ => fun
  | [d1, d2] => { results := [.lit (.bool false)], args := [d1, d2] }
  | _ => none }
def FnExactStepsOfTiltWrongFalsely : Prop := fnExactStepsOfTiltRow.holds Tryd.pinned (OpenSpec.ofChange fnExactStepsOfTiltWrong)

/-- 'laws.FnExactStillWays': WHATEVER THE INPUT: true; the input reads as it did. -/
def fnExactStillWaysSpec : ChangeSpec := { name := "fnExactStillWays", fn := fun _ => fun
  | [d] => { results := [.lit (.bool true)], args := [d] }
  | _ => none }
def fnExactStillWaysRow : OpenClaim := { program := "ytppjlcmfmbpkjaadoor", sum := "ef6687fdddf89d17f044999a0396ce6095571fc1d971c163c7aa7ac1050ef7a3", func := "loop.example/g01199/laws.FnExactStillWays", spec := "fnExactStillWays", inPlace := ["internal/bytealg.CountString", "internal/bytealg.IndexByteString", "internal/bytealg.IndexString"], unfollowed := true, recurses := true, named := ["unicode/utf8.first", "unicode/utf8.acceptRanges", "internal/bytealg.MaxLen"], apart := false, laid := [("unicode/utf8.acceptRanges", laid_unicode_utf8_acceptRanges), ("unicode/utf8.first", laid_unicode_utf8_first)] }
def FnExactStillWaysSaid : Prop := fnExactStillWaysRow.holds Tryd.pinned (OpenSpec.ofChange fnExactStillWaysSpec)

/-- ITS FALSE NEIGHBOUR: 'it returns false'. Refute it at one input. -/
def fnExactStillWaysWrong : ChangeSpec := { name := "fnExactStillWays", fn := fun _ => fun
  | [d] => { results := [.lit (.bool false)], args := [d] }
  | _ => none }
def FnExactStillWaysWrongFalsely : Prop := fnExactStillWaysRow.holds Tryd.pinned (OpenSpec.ofChange fnExactStillWaysWrong)

/-- 'laws.FnExactStretchesOf': WHATEVER THE INPUT: true; the input reads as it did. -/
def fnExactStretchesOfSpec : ChangeSpec := { name := "fnExactStretchesOf", fn := fun _ => fun
  | [d1, d2] => { results := [.lit (.bool true)], args := [d1, d2] }
  | _ => none }
def fnExactStretchesOfRow : OpenClaim := { program := "ytppjlcmfmbpkjaadoor", sum := "ef6687fdddf89d17f044999a0396ce6095571fc1d971c163c7aa7ac1050ef7a3", func := "loop.example/g01199/laws.FnExactStretchesOf", spec := "fnExactStretchesOf", inPlace := ["internal/bytealg.CountString", "internal/bytealg.IndexByteString", "internal/bytealg.IndexString"], unfollowed := true, recurses := true, named := ["unicode/utf8.first", "unicode/utf8.acceptRanges", "internal/bytealg.MaxLen"], apart := false, laid := [("unicode/utf8.acceptRanges", laid_unicode_utf8_acceptRanges), ("unicode/utf8.first", laid_unicode_utf8_first)] }
def FnExactStretchesOfSaid : Prop := fnExactStretchesOfRow.holds Tryd.pinned (OpenSpec.ofChange fnExactStretchesOfSpec)

/-- ITS FALSE NEIGHBOUR: 'it returns false'. Refute it at one input. -/
def fnExactStretchesOfWrong : ChangeSpec := { name := "fnExactStretchesOf", fn := fun _ => fun
  | [d1, d2] => { results := [.lit (.bool false)], args := [d1, d2] }
  | _ => none }
def FnExactStretchesOfWrongFalsely : Prop := fnExactStretchesOfRow.holds Tryd.pinned (OpenSpec.ofChange fnExactStretchesOfWrong)

/-- 'laws.FnExactMovedBalls': WHATEVER THE INPUT: true; the input reads as it did. -/
def fnExactMovedBallsSpec : ChangeSpec := { name := "fnExactMovedBalls", fn := fun _ => fun
  | [d1, d2] => { results := [.lit (.bool true)], args := [d1, d2] }
  | _ => none }
def fnExactMovedBallsRow : OpenClaim := { program := "ytppjlcmfmbpkjaadoor", sum := "ef6687fdddf89d17f044999a0396ce6095571fc1d971c163c7aa7ac1050ef7a3", func := "loop.example/g01199/laws.FnExactMovedBalls", spec := "fnExactMovedBalls", inPlace := ["internal/bytealg.CountString", "internal/bytealg.IndexByteString", "internal/bytealg.IndexString"], unfollowed := true, recurses := true, named := ["unicode/utf8.first", "unicode/utf8.acceptRanges", "internal/bytealg.MaxLen"], apart := false, laid := [("unicode/utf8.acceptRanges", laid_unicode_utf8_acceptRanges), ("unicode/utf8.first", laid_unicode_utf8_first)] }
def FnExactMovedBallsSaid : Prop := fnExactMovedBallsRow.holds Tryd.pinned (OpenSpec.ofChange fnExactMovedBallsSpec)

/-- ITS FALSE NEIGHBOUR: 'it returns false'. Refute it at one input. -/
def fnExactMovedBallsWrong : ChangeSpec := { name := "fnExactMovedBalls", fn := fun _ => fun
  | [d1, d2] => { results := [.lit (.bool false)], args := [d1, d2] }
  | _ => none }
def FnExactMovedBallsWrongFalsely : Prop := fnExactMovedBallsRow.holds Tryd.pinned (OpenSpec.ofChange fnExactMovedBallsWrong)

/-- 'laws.FnExactMovedCells': WHATEVER THE INPUT: true; the input reads as it did. -/
def fnExactMovedCellsSpec : ChangeSpec := { name := "fnExactMovedCells", fn := fun _ => fun
  | [d1, d2] => { results := [.lit (.bool true)], args := [d1, d2] }
  | _ => none }
def fnExactMovedCellsRow : OpenClaim := { program := "ytppjlcmfmbpkjaadoor", sum := "ef6687fdddf89d17f044999a0396ce6095571fc1d971c163c7aa7ac1050ef7a3", func := "loop.example/g01199/laws.FnExactMovedCells", spec := "fnExactMovedCells", inPlace := ["internal/bytealg.CountString", "internal/bytealg.IndexByteString", "internal/bytealg.IndexString"], unfollowed := true, recurses := true, named := ["unicode/utf8.first", "unicode/utf8.acceptRanges", "internal/bytealg.MaxLen"], apart := false, laid := [("unicode/utf8.acceptRanges", laid_unicode_utf8_acceptRanges), ("unicode/utf8.first", laid_unicode_utf8_first)] }
def FnExactMovedCellsSaid : Prop := fnExactMovedCellsRow.holds Tryd.pinned (OpenSpec.ofChange fnExactMovedCellsSpec)

/-- ITS FALSE NEIGHBOUR: 'it returns false'. Refute it at one input. -/
def fnExactMovedCellsWrong : ChangeSpec := { name := "fnExactMovedCells", fn := fun _ => fun
  | [d1, d2] => { results := [.lit (.bool false)], args := [d1, d2] }
  | _ => none }
def FnExactMovedCellsWrongFalsely : Prop := fnExactMovedCellsRow.holds Tryd.pinned (OpenSpec.ofChange fnExactMovedCellsWrong)

/-- 'laws.FnExactCountBefore': WHATEVER THE INPUT: true; the input reads as it did. -/
def fnExactCountBeforeSpec : ChangeSpec := { name := "fnExactCountBefore", fn := fun _ => fun
  | [d1, d2] => { results := [.lit (.bool true)], args := [d1, d2] }
  | _ => none }
def fnExactCountBeforeRow : OpenClaim := { program := "ytppjlcmfmbpkjaadoor", sum := "ef6687fdddf89d17f044999a0396ce6095571fc1d971c163c7aa7ac1050ef7a3", func := "loop.example/g01199/laws.FnExactCountBefore", spec := "fnExactCountBefore", inPlace := ["internal/bytealg.CountString", "internal/bytealg.IndexByteString", "internal/bytealg.IndexString"], unfollowed := true, recurses := true, named := ["unicode/utf8.first", "unicode/utf8.acceptRanges", "internal/bytealg.MaxLen"], apart := false, laid := [("unicode/utf8.acceptRanges", laid_unicode_utf8_acceptRanges), ("unicode/utf8.first", laid_unicode_utf8_first)] }
def FnExactCountBeforeSaid : Prop := fnExactCountBeforeRow.holds Tryd.pinned (OpenSpec.ofChange fnExactCountBeforeSpec)

/-- ITS FALSE NEIGHBOUR: 'it returns false'. Refute it at one input. -/
def fnExactCountBeforeWrong : ChangeSpec := { name := "fnExactCountBefore", fn := fun _ => fun
  | [d1, d2] => { results := [.lit (.bool false)], args := [d1, d2] }
  | _ => none }
def FnExactCountBeforeWrongFalsely : Prop := fnExactCountBeforeRow.holds Tryd.pinned (OpenSpec.ofChange fnExactCountBeforeWrong)

/-- 'laws.FnExactPathOfBall': WHATEVER THE INPUT: true; the input reads as it did. -/
def fnExactPathOfBallSpec : ChangeSpec := { name := "fnExactPathOfBall", fn := fun _ => fun
  | [d1, d2, d3] => { results := [.lit (.bool true)], args := [d1, d2, d3] }
  | _ => none }
def fnExactPathOfBallRow : OpenClaim := { program := "ytppjlcmfmbpkjaadoor", sum := "ef6687fdddf89d17f044999a0396ce6095571fc1d971c163c7aa7ac1050ef7a3", func := "loop.example/g01199/laws.FnExactPathOfBall", spec := "fnExactPathOfBall", inPlace := ["internal/bytealg.CountString", "internal/bytealg.IndexByteString", "internal/bytealg.IndexString"], unfollowed := true, recurses := true, named := ["unicode/utf8.first", "unicode/utf8.acceptRanges", "internal/bytealg.MaxLen"], apart := false, laid := [("unicode/utf8.acceptRanges", laid_unicode_utf8_acceptRanges), ("unicode/utf8.first", laid_unicode_utf8_first)] }
def FnExactPathOfBallSaid : Prop := fnExactPathOfBallRow.holds Tryd.pinned (OpenSpec.ofChange fnExactPathOfBallSpec)

/-- ITS FALSE NEIGHBOUR: 'it returns false'. Refute it at one input. -/
def fnExactPathOfBallWrong : ChangeSpec := { name := "fnExactPathOfBall", fn := fun _ => fun
  | [d1, d2, d3] => { results := [.lit (.bool false)], args := [d1, d2, d3] }
  | _ => none }
def FnExactPathOfBallWrongFalsely : Prop := fnExactPathOfBallRow.holds Tryd.pinned (OpenSpec.ofChange fnExactPathOfBallWrong)

/-- 'laws.FnExactPeriodOfWord': WHATEVER THE INPUT: true; the input reads as it did. -/
def fnExactPeriodOfWordSpec : ChangeSpec := { name := "fnExactPeriodOfWord", fn := fun _ => fun
  | [d1, d2] => { results := [.lit (.bool true)], args := [d1, d2] }
  | _ => none }
def fnExactPeriodOfWordRow : OpenClaim := { program := "ytppjlcmfmbpkjaadoor", sum := "ef6687fdddf89d17f044999a0396ce6095571fc1d971c163c7aa7ac1050ef7a3", func := "loop.example/g01199/laws.FnExactPeriodOfWord", spec := "fnExactPeriodOfWord", inPlace := ["internal/bytealg.CountString", "internal/bytealg.IndexByteString", "internal/bytealg.IndexString"], unfollowed := true, recurses := true, named := ["unicode/utf8.first", "unicode/utf8.acceptRanges", "internal/bytealg.MaxLen"], apart := false, laid := [("unicode/utf8.acceptRanges", laid_unicode_utf8_acceptRanges), ("unicode/utf8.first", laid_unicode_utf8_first)] }
def FnExactPeriodOfWordSaid : Prop := fnExactPeriodOfWordRow.holds Tryd.pinned (OpenSpec.ofChange fnExactPeriodOfWordSpec)

/-- ITS FALSE NEIGHBOUR: 'it returns false'. Refute it at one input. -/
def fnExactPeriodOfWordWrong : ChangeSpec := { name := "fnExactPeriodOfWord", fn := fun _ => fun
  | [d1, d2] => { results := [.lit (.bool false)], args := [d1, d2] }
  | _ => none }
def FnExactPeriodOfWordWrongFalsely : Prop := fnExactPeriodOfWordRow.holds Tryd.pinned (OpenSpec.ofChange fnExactPeriodOfWordWrong)

/-- 'laws.FnExactAreSameWords': WHATEVER THE INPUT: true; the input reads as it did. -/
def fnExactAreSameWordsSpec : ChangeSpec := { name := "fnExactAreSameWords", fn := fun _ => fun
  | [d1, d2, d3] => { results := [.lit (.bool true)], args := [d1, d2, d3] }
  | _ => none }
def fnExactAreSameWordsRow : OpenClaim := { program := "ytppjlcmfmbpkjaadoor", sum := "ef6687fdddf89d17f044999a0396ce6095571fc1d971c163c7aa7ac1050ef7a3", func := "loop.example/g01199/laws.FnExactAreSameWords", spec := "fnExactAreSameWords", inPlace := ["internal/bytealg.CountString", "internal/bytealg.IndexByteString", "internal/bytealg.IndexString"], unfollowed := true, recurses := true, named := ["unicode/utf8.first", "unicode/utf8.acceptRanges", "internal/bytealg.MaxLen"], apart := false, laid := [("unicode/utf8.acceptRanges", laid_unicode_utf8_acceptRanges), ("unicode/utf8.first", laid_unicode_utf8_first)] }
def FnExactAreSameWordsSaid : Prop := fnExactAreSameWordsRow.holds Tryd.pinned (OpenSpec.ofChange fnExactAreSameWordsSpec)

/-- ITS FALSE NEIGHBOUR: 'it returns false'. Refute it at one input. -/
def fnExactAreSameWordsWrong : ChangeSpec := { name := "fnExactAreSameWords", fn := fun _ => fun
  | [d1, d2, d3] => { results := [.lit (.bool false)], args := [d1, d2, d3] }
  | _ => none }
def FnExactAreSameWordsWrongFalsely : Prop := fnExactAreSameWordsRow.holds Tryd.pinned (OpenSpec.ofChange fnExactAreSameWordsWrong)

/- THE SECOND FORM. 'bulk': how many values and letters a reading holds, each counted each time it is reached (what is shared counts as often as it is met; a slice's spare places count too). A statement '..UptoSaid' is the law's where the arguments, and the package variables that the reading takes, are together of bulk at most 1048576: NARROWER than '..Said'. Prove '..Said' where nothing that the law and all that it calls make is longer than what came in: it says more and counts as full. Else prove '..UptoSaid'. A law counts once. -/
mutual
def uptoBulk {H : Type} : DataW H → Nat
  | .lit (.string bytes) => bytes.length + 1
  | .lit _ => 1
  | .nil => 1
  | .ptr d => uptoBulk d + 1
  | .slice elems spare => uptoBulkAll elems + uptoBulkAll spare + 1
  | .agg parts => uptoBulkAll parts + 1
  | .iface _ d => uptoBulk d + 1
  | .map entries => uptoBulkEntries entries + 1
  | .held _ => 1
def uptoBulkAll {H : Type} : List (DataW H) → Nat
  | [] => 0
  | d :: r => uptoBulk d + uptoBulkAll r
def uptoBulkEntries {H : Type} : List (Lit × DataW H) → Nat
  | [] => 0
  | x :: r => uptoBulkEntry x + uptoBulkEntries r
def uptoBulkEntry {H : Type} : Lit × DataW H → Nat
  | (.string bytes, d) => bytes.length + uptoBulk d + 1
  | (_, d) => uptoBulk d + 1
 end
def uptoSmall : (H : Type) → List (DataW H) → Bool := fun _ ds => decide (uptoBulkAll ds ≤ 1048576)
def OpenSpec.upto (s : _root_.Go.ChangeSpec) : _root_.Go.OpenSpec := { _root_.Go.OpenSpec.ofChange s with cond := some uptoSmall }

/-- 'laws.FnExactTiltTray', WHERE WHAT IT READS IS OF BULK AT MOST 1048576: true; the input reads as it did. -/
def fnExactTiltTrayUptoRow : OpenClaim := { program := "ytppjlcmfmbpkjaadoor", sum := "ef6687fdddf89d17f044999a0396ce6095571fc1d971c163c7aa7ac1050ef7a3", func := "loop.example/g01199/laws.FnExactTiltTray", spec := "fnExactTiltTray", inPlace := ["internal/bytealg.CountString", "internal/bytealg.IndexByteString", "internal/bytealg.IndexString", "internal/abi.NoEscape", "internal/bytealg.MakeNoZero"], unfollowed := true, recurses := true, named := ["unicode/utf8.first", "unicode/utf8.acceptRanges", "internal/bytealg.MaxLen"], apart := false, laid := [("unicode/utf8.acceptRanges", laid_unicode_utf8_acceptRanges), ("unicode/utf8.first", laid_unicode_utf8_first)], narrowed := true }
def FnExactTiltTrayUptoSaid : Prop := fnExactTiltTrayUptoRow.holds Tryd.pinned (OpenSpec.upto fnExactTiltTraySpec)

/-- 'laws.FnExactStepTray', WHERE WHAT IT READS IS OF BULK AT MOST 1048576: true; the input reads as it did. -/
def fnExactStepTrayUptoRow : OpenClaim := { program := "ytppjlcmfmbpkjaadoor", sum := "ef6687fdddf89d17f044999a0396ce6095571fc1d971c163c7aa7ac1050ef7a3", func := "loop.example/g01199/laws.FnExactStepTray", spec := "fnExactStepTray", inPlace := ["internal/bytealg.CountString", "internal/bytealg.IndexByteString", "internal/bytealg.IndexString", "internal/abi.NoEscape", "internal/bytealg.MakeNoZero"], unfollowed := true, recurses := true, named := ["unicode/utf8.first", "unicode/utf8.acceptRanges", "internal/bytealg.MaxLen"], apart := false, laid := [("unicode/utf8.acceptRanges", laid_unicode_utf8_acceptRanges), ("unicode/utf8.first", laid_unicode_utf8_first)], narrowed := true }
def FnExactStepTrayUptoSaid : Prop := fnExactStepTrayUptoRow.holds Tryd.pinned (OpenSpec.upto fnExactStepTraySpec)

/-- 'laws.FnExactStepsOfTilt', WHERE WHAT IT READS IS OF BULK AT MOST 1048576: true; the input reads as it did. -/
def fnExactStepsOfTiltUptoRow : OpenClaim := { program := "ytppjlcmfmbpkjaadoor", sum := "ef6687fdddf89d17f044999a0396ce6095571fc1d971c163c7aa7ac1050ef7a3", func := "loop.example/g01199/laws.FnExactStepsOfTilt", spec := "fnExactStepsOfTilt", inPlace := ["internal/bytealg.CountString", "internal/bytealg.IndexByteString", "internal/bytealg.IndexString"], unfollowed := true, recurses := true, named := ["unicode/utf8.first", "unicode/utf8.acceptRanges", "internal/bytealg.MaxLen"], apart := false, laid := [("unicode/utf8.acceptRanges", laid_unicode_utf8_acceptRanges), ("unicode/utf8.first", laid_unicode_utf8_first)], narrowed := true }
def FnExactStepsOfTiltUptoSaid : Prop := fnExactStepsOfTiltUptoRow.holds Tryd.pinned (OpenSpec.upto fnExactStepsOfTiltSpec)

/-- 'laws.FnExactStillWays', WHERE WHAT IT READS IS OF BULK AT MOST 1048576: true; the input reads as it did. -/
def fnExactStillWaysUptoRow : OpenClaim := { program := "ytppjlcmfmbpkjaadoor", sum := "ef6687fdddf89d17f044999a0396ce6095571fc1d971c163c7aa7ac1050ef7a3", func := "loop.example/g01199/laws.FnExactStillWays", spec := "fnExactStillWays", inPlace := ["internal/bytealg.CountString", "internal/bytealg.IndexByteString", "internal/bytealg.IndexString"], unfollowed := true, recurses := true, named := ["unicode/utf8.first", "unicode/utf8.acceptRanges", "internal/bytealg.MaxLen"], apart := false, laid := [("unicode/utf8.acceptRanges", laid_unicode_utf8_acceptRanges), ("unicode/utf8.first", laid_unicode_utf8_first)], narrowed := true }
def FnExactStillWaysUptoSaid : Prop := fnExactStillWaysUptoRow.holds Tryd.pinned (OpenSpec.upto fnExactStillWaysSpec)

/-- 'laws.FnExactStretchesOf', WHERE WHAT IT READS IS OF BULK AT MOST 1048576: true; the input reads as it did. -/
def fnExactStretchesOfUptoRow : OpenClaim := { program := "ytppjlcmfmbpkjaadoor", sum := "ef6687fdddf89d17f044999a0396ce6095571fc1d971c163c7aa7ac1050ef7a3", func := "loop.example/g01199/laws.FnExactStretchesOf", spec := "fnExactStretchesOf", inPlace := ["internal/bytealg.CountString", "internal/bytealg.IndexByteString", "internal/bytealg.IndexString"], unfollowed := true, recurses := true, named := ["unicode/utf8.first", "unicode/utf8.acceptRanges", "internal/bytealg.MaxLen"], apart := false, laid := [("unicode/utf8.acceptRanges", laid_unicode_utf8_acceptRanges), ("unicode/utf8.first", laid_unicode_utf8_first)], narrowed := true }
def FnExactStretchesOfUptoSaid : Prop := fnExactStretchesOfUptoRow.holds Tryd.pinned (OpenSpec.upto fnExactStretchesOfSpec)

/-- 'laws.FnExactMovedBalls', WHERE WHAT IT READS IS OF BULK AT MOST 1048576: true; the input reads as it did. -/
def fnExactMovedBallsUptoRow : OpenClaim := { program := "ytppjlcmfmbpkjaadoor", sum := "ef6687fdddf89d17f044999a0396ce6095571fc1d971c163c7aa7ac1050ef7a3", func := "loop.example/g01199/laws.FnExactMovedBalls", spec := "fnExactMovedBalls", inPlace := ["internal/bytealg.CountString", "internal/bytealg.IndexByteString", "internal/bytealg.IndexString"], unfollowed := true, recurses := true, named := ["unicode/utf8.first", "unicode/utf8.acceptRanges", "internal/bytealg.MaxLen"], apart := false, laid := [("unicode/utf8.acceptRanges", laid_unicode_utf8_acceptRanges), ("unicode/utf8.first", laid_unicode_utf8_first)], narrowed := true }
def FnExactMovedBallsUptoSaid : Prop := fnExactMovedBallsUptoRow.holds Tryd.pinned (OpenSpec.upto fnExactMovedBallsSpec)

/-- 'laws.FnExactMovedCells', WHERE WHAT IT READS IS OF BULK AT MOST 1048576: true; the input reads as it did. -/
def fnExactMovedCellsUptoRow : OpenClaim := { program := "ytppjlcmfmbpkjaadoor", sum := "ef6687fdddf89d17f044999a0396ce6095571fc1d971c163c7aa7ac1050ef7a3", func := "loop.example/g01199/laws.FnExactMovedCells", spec := "fnExactMovedCells", inPlace := ["internal/bytealg.CountString", "internal/bytealg.IndexByteString", "internal/bytealg.IndexString"], unfollowed := true, recurses := true, named := ["unicode/utf8.first", "unicode/utf8.acceptRanges", "internal/bytealg.MaxLen"], apart := false, laid := [("unicode/utf8.acceptRanges", laid_unicode_utf8_acceptRanges), ("unicode/utf8.first", laid_unicode_utf8_first)], narrowed := true }
def FnExactMovedCellsUptoSaid : Prop := fnExactMovedCellsUptoRow.holds Tryd.pinned (OpenSpec.upto fnExactMovedCellsSpec)

/-- 'laws.FnExactCountBefore', WHERE WHAT IT READS IS OF BULK AT MOST 1048576: true; the input reads as it did. -/
def fnExactCountBeforeUptoRow : OpenClaim := { program := "ytppjlcmfmbpkjaadoor", sum := "ef6687fdddf89d17f044999a0396ce6095571fc1d971c163c7aa7ac1050ef7a3", func := "loop.example/g01199/laws.FnExactCountBefore", spec := "fnExactCountBefore", inPlace := ["internal/bytealg.CountString", "internal/bytealg.IndexByteString", "internal/bytealg.IndexString"], unfollowed := true, recurses := true, named := ["unicode/utf8.first", "unicode/utf8.acceptRanges", "internal/bytealg.MaxLen"], apart := false, laid := [("unicode/utf8.acceptRanges", laid_unicode_utf8_acceptRanges), ("unicode/utf8.first", laid_unicode_utf8_first)], narrowed := true }
def FnExactCountBeforeUptoSaid : Prop := fnExactCountBeforeUptoRow.holds Tryd.pinned (OpenSpec.upto fnExactCountBeforeSpec)

/-- 'laws.FnExactPathOfBall', WHERE WHAT IT READS IS OF BULK AT MOST 1048576: true; the input reads as it did. -/
def fnExactPathOfBallUptoRow : OpenClaim := { program := "ytppjlcmfmbpkjaadoor", sum := "ef6687fdddf89d17f044999a0396ce6095571fc1d971c163c7aa7ac1050ef7a3", func := "loop.example/g01199/laws.FnExactPathOfBall", spec := "fnExactPathOfBall", inPlace := ["internal/bytealg.CountString", "internal/bytealg.IndexByteString", "internal/bytealg.IndexString"], unfollowed := true, recurses := true, named := ["unicode/utf8.first", "unicode/utf8.acceptRanges", "internal/bytealg.MaxLen"], apart := false, laid := [("unicode/utf8.acceptRanges", laid_unicode_utf8_acceptRanges), ("unicode/utf8.first", laid_unicode_utf8_first)], narrowed := true }
def FnExactPathOfBallUptoSaid : Prop := fnExactPathOfBallUptoRow.holds Tryd.pinned (OpenSpec.upto fnExactPathOfBallSpec)

/-- 'laws.FnExactPeriodOfWord', WHERE WHAT IT READS IS OF BULK AT MOST 1048576: true; the input reads as it did. -/
def fnExactPeriodOfWordUptoRow : OpenClaim := { program := "ytppjlcmfmbpkjaadoor", sum := "ef6687fdddf89d17f044999a0396ce6095571fc1d971c163c7aa7ac1050ef7a3", func := "loop.example/g01199/laws.FnExactPeriodOfWord", spec := "fnExactPeriodOfWord", inPlace := ["internal/bytealg.CountString", "internal/bytealg.IndexByteString", "internal/bytealg.IndexString"], unfollowed := true, recurses := true, named := ["unicode/utf8.first", "unicode/utf8.acceptRanges", "internal/bytealg.MaxLen"], apart := false, laid := [("unicode/utf8.acceptRanges", laid_unicode_utf8_acceptRanges), ("unicode/utf8.first", laid_unicode_utf8_first)], narrowed := true }
def FnExactPeriodOfWordUptoSaid : Prop := fnExactPeriodOfWordUptoRow.holds Tryd.pinned (OpenSpec.upto fnExactPeriodOfWordSpec)

/-- 'laws.FnExactAreSameWords', WHERE WHAT IT READS IS OF BULK AT MOST 1048576: true; the input reads as it did. -/
def fnExactAreSameWordsUptoRow : OpenClaim := { program := "ytppjlcmfmbpkjaadoor", sum := "ef6687fdddf89d17f044999a0396ce6095571fc1d971c163c7aa7ac1050ef7a3", func := "loop.example/g01199/laws.FnExactAreSameWords", spec := "fnExactAreSameWords", inPlace := ["internal/bytealg.CountString", "internal/bytealg.IndexByteString", "internal/bytealg.IndexString"], unfollowed := true, recurses := true, named := ["unicode/utf8.first", "unicode/utf8.acceptRanges", "internal/bytealg.MaxLen"], apart := false, laid := [("unicode/utf8.acceptRanges", laid_unicode_utf8_acceptRanges), ("unicode/utf8.first", laid_unicode_utf8_first)], narrowed := true }
def FnExactAreSameWordsUptoSaid : Prop := fnExactAreSameWordsUptoRow.holds Tryd.pinned (OpenSpec.upto fnExactAreSameWordsSpec)

end Rows
end Go.Proofs.YtppjlcmfmbpkjaaDoor
