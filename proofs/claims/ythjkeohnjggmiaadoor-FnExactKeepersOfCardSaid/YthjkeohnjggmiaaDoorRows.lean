/-
  NARROWER THAN 'FOR EVERY INPUT', by the rows' own cells (each row's printed sentence says how): FnExactLeastTray: laid · FnExactKeepersOf: laid · FnExactCropTray: laid · FnExactJoinTrays: laid · FnExactBesideTrays: laid · FnExactPartsOf: laid · FnExactWayBetween: laid · FnExactIsWord: laid · FnExactShortWord: laid · FnExactOppositeWord: laid · FnExactTurnWord: laid · FnExactTiltTray: laid.
  DERIVED. THE GIVEN ROWS OF THIS SEAT. 12 by the template 'for every input the law returns true; each argument reads behind the call as it read before'; 0 by the template 'total and deterministic' (their statements: YthjkeohnjggmiaaDoorTotals.lean).
  GIVEN WITH THE SEED: the statements are not yours to turn. If you find one false, say at which input.
  Laid BY PROGRAM, IN A SANDBOX (cutbox-rows.mjs): the forced cells as the released guide's own fill.sh prints them over the translation b42cdbc9f769fc6a… (all of the seat's roots in one cut). By AI agents, Wed Nov 11 2026. No macro, syntax, notation, axiom, sorry.
-/
import Derived.Test.YthjkeohnjggmiaaDoorChecked
import GoSem.PinnedTables
import GoSem.Claim
import GoSem.ClaimJoined
import GoSem.ClaimMapViews
import Derived.JoinedTies
import Derived.KernelRfl
namespace Go.Proofs.YthjkeohnjggmiaaDoor
/- THE CELL 'sum', in the pinned program and in every row, IS THE sha256 OF THE DUMP (.gsa) THAT YthjkeohnjggmiaaDoorProg.lean LOADS. Nothing in Lean hashes anything: it is a label: what it is worth is what the hold of that sum in a sandbox is worth. -/
noncomputable def Tryd.pinned : Pinned := { name := "ythjkeohnjggmiaadoor", sum := "b42cdbc9f769fc6a26861377029b105900bc1c72a0a9e5e540e16063977407e4", checked := Tryd.checked }
namespace Rows
def none {H : Type} : Left H := { results := [], args := [] }

/- WHAT THE LISTED PACKAGE-LEVEL VARIABLES READ AS WHEN THE CALL BEGINS. Each datum BY PROGRAM (the guide's laid-datum.mjs) off the statement by which the dump's own 'gosem.cut.vars' lays the variable. In a bare row this is a premise. The card (YthjkeohnjggmiaaDoorCards.lean) ties it to the program's text. -/
def laid_unicode_utf8_acceptRanges {H : Type} : DataW H := .agg [.agg [.lit (.int .u8 128), .lit (.int .u8 191)], .agg [.lit (.int .u8 160), .lit (.int .u8 191)], .agg [.lit (.int .u8 128), .lit (.int .u8 159)], .agg [.lit (.int .u8 144), .lit (.int .u8 191)], .agg [.lit (.int .u8 128), .lit (.int .u8 143)], .agg [.lit (.int .u8 0), .lit (.int .u8 0)], .agg [.lit (.int .u8 0), .lit (.int .u8 0)], .agg [.lit (.int .u8 0), .lit (.int .u8 0)], .agg [.lit (.int .u8 0), .lit (.int .u8 0)], .agg [.lit (.int .u8 0), .lit (.int .u8 0)], .agg [.lit (.int .u8 0), .lit (.int .u8 0)], .agg [.lit (.int .u8 0), .lit (.int .u8 0)], .agg [.lit (.int .u8 0), .lit (.int .u8 0)], .agg [.lit (.int .u8 0), .lit (.int .u8 0)], .agg [.lit (.int .u8 0), .lit (.int .u8 0)], .agg [.lit (.int .u8 0), .lit (.int .u8 0)]]
/-- One of Go's own tables, pinned by name: the form's constant. -/
def laid_unicode_utf8_first : DataW Unit := Go.Pinned.utf8First

/-- 'laws.FnExactLeastTray': WHATEVER THE INPUT: true; the input reads as it did. -/
def fnExactLeastTraySpec : ChangeSpec := { name := "fnExactLeastTray", fn := fun _ => fun
  | [d] => { results := [.lit (.bool true)], args := [d] }
  | _ => none }
def fnExactLeastTrayRow : OpenClaim := { program := "ythjkeohnjggmiaadoor", sum := "b42cdbc9f769fc6a26861377029b105900bc1c72a0a9e5e540e16063977407e4", func := "loop.example/g01199/laws.FnExactLeastTray", spec := "fnExactLeastTray", inPlace := ["internal/bytealg.CountString", "internal/bytealg.IndexByteString", "internal/bytealg.IndexString", "internal/abi.NoEscape", "internal/bytealg.MakeNoZero"], named := ["unicode/utf8.first", "unicode/utf8.acceptRanges", "internal/bytealg.MaxLen"], apart := false, laid := [("unicode/utf8.acceptRanges", laid_unicode_utf8_acceptRanges), ("unicode/utf8.first", laid_unicode_utf8_first)] }
def FnExactLeastTraySaid : Prop := fnExactLeastTrayRow.holds Tryd.pinned (OpenSpec.ofChange fnExactLeastTraySpec)

/-- ITS FALSE NEIGHBOUR: 'it returns false'. Refute it at one input. -/
def fnExactLeastTrayWrong : ChangeSpec := { name := "fnExactLeastTray", fn := fun _ => fun
  | [d] => { results := [.lit (.bool false)], args := [d] }
  | _ => none }
def FnExactLeastTrayWrongFalsely : Prop := fnExactLeastTrayRow.holds Tryd.pinned (OpenSpec.ofChange fnExactLeastTrayWrong)

/-- 'laws.FnExactKeepersOf': WHATEVER THE INPUT: true; the input reads as it did. -/
def fnExactKeepersOfSpec : ChangeSpec := { name := "fnExactKeepersOf", fn := fun _ => fun
  | [d] => { results := [.lit (.bool true)], args := [d] }
  | _ => none }
def fnExactKeepersOfRow : OpenClaim := { program := "ythjkeohnjggmiaadoor", sum := "b42cdbc9f769fc6a26861377029b105900bc1c72a0a9e5e540e16063977407e4", func := "loop.example/g01199/laws.FnExactKeepersOf", spec := "fnExactKeepersOf", inPlace := ["internal/bytealg.CountString", "internal/bytealg.IndexByteString", "internal/bytealg.IndexString"], named := ["unicode/utf8.first", "unicode/utf8.acceptRanges", "internal/bytealg.MaxLen"], apart := false, laid := [("unicode/utf8.acceptRanges", laid_unicode_utf8_acceptRanges), ("unicode/utf8.first", laid_unicode_utf8_first)] }
def FnExactKeepersOfSaid : Prop := fnExactKeepersOfRow.holds Tryd.pinned (OpenSpec.ofChange fnExactKeepersOfSpec)

/-- ITS FALSE NEIGHBOUR: 'it returns false'. Refute it at one input. -/
def fnExactKeepersOfWrong : ChangeSpec := { name := "fnExactKeepersOf", fn := fun _ => fun
  | [d] => { results := [.lit (.bool false)], args := [d] }
  | _ => none }
def FnExactKeepersOfWrongFalsely : Prop := fnExactKeepersOfRow.holds Tryd.pinned (OpenSpec.ofChange fnExactKeepersOfWrong)

/-- 'laws.FnExactCropTray': WHATEVER THE INPUT: true; the input reads as it did. -/
def fnExactCropTraySpec : ChangeSpec := { name := "fnExactCropTray", fn := fun _ => fun
  | [d] => { results := [.lit (.bool true)], args := [d] }
  | _ => none }
def fnExactCropTrayRow : OpenClaim := { program := "ythjkeohnjggmiaadoor", sum := "b42cdbc9f769fc6a26861377029b105900bc1c72a0a9e5e540e16063977407e4", func := "loop.example/g01199/laws.FnExactCropTray", spec := "fnExactCropTray", inPlace := ["internal/bytealg.CountString", "internal/bytealg.IndexByteString", "internal/bytealg.IndexString", "internal/abi.NoEscape", "internal/bytealg.MakeNoZero"], named := ["unicode/utf8.first", "unicode/utf8.acceptRanges", "internal/bytealg.MaxLen"], apart := false, laid := [("unicode/utf8.acceptRanges", laid_unicode_utf8_acceptRanges), ("unicode/utf8.first", laid_unicode_utf8_first)] }
def FnExactCropTraySaid : Prop := fnExactCropTrayRow.holds Tryd.pinned (OpenSpec.ofChange fnExactCropTraySpec)

/-- ITS FALSE NEIGHBOUR: 'it returns false'. Refute it at one input. -/
def fnExactCropTrayWrong : ChangeSpec := { name := "fnExactCropTray", fn := fun _ => fun
  | [d] => { results := [.lit (.bool false)], args := [d] }
  | _ => none }
def FnExactCropTrayWrongFalsely : Prop := fnExactCropTrayRow.holds Tryd.pinned (OpenSpec.ofChange fnExactCropTrayWrong)

/-- 'laws.FnExactJoinTrays': WHATEVER THE INPUT: true; the input reads as it did. -/
def fnExactJoinTraysSpec : ChangeSpec := { name := "fnExactJoinTrays", fn := fun _ => fun
  | [d1, d2] => { results := [.lit (.bool true)], args := [d1, d2] }
  | _ => none }
def fnExactJoinTraysRow : OpenClaim := { program := "ythjkeohnjggmiaadoor", sum := "b42cdbc9f769fc6a26861377029b105900bc1c72a0a9e5e540e16063977407e4", func := "loop.example/g01199/laws.FnExactJoinTrays", spec := "fnExactJoinTrays", inPlace := ["internal/bytealg.CountString", "internal/bytealg.IndexByteString", "internal/bytealg.IndexString"], named := ["unicode/utf8.first", "unicode/utf8.acceptRanges", "internal/bytealg.MaxLen"], apart := false, laid := [("unicode/utf8.acceptRanges", laid_unicode_utf8_acceptRanges), ("unicode/utf8.first", laid_unicode_utf8_first)] }
def FnExactJoinTraysSaid : Prop := fnExactJoinTraysRow.holds Tryd.pinned (OpenSpec.ofChange fnExactJoinTraysSpec)

/-- ITS FALSE NEIGHBOUR: 'it returns false'. Refute it at one input. -/
def fnExactJoinTraysWrong : ChangeSpec := { name := "fnExactJoinTrays", fn := fun _ => fun
  | [d1, d2] => { results := [.lit (.bool false)], args := [d1, d2] }
  | _ => none }
def FnExactJoinTraysWrongFalsely : Prop := fnExactJoinTraysRow.holds Tryd.pinned (OpenSpec.ofChange fnExactJoinTraysWrong)

/-- 'laws.FnExactBesideTrays': WHATEVER THE INPUT: true; the input reads as it did. -/
def fnExactBesideTraysSpec : ChangeSpec := { name := "fnExactBesideTrays", fn := fun _ => fun
  | [d1, d2] => { results := [.lit (.bool true)], args := [d1, d2] }
  | _ => none }
def fnExactBesideTraysRow : OpenClaim := { program := "ythjkeohnjggmiaadoor", sum := "b42cdbc9f769fc6a26861377029b105900bc1c72a0a9e5e540e16063977407e4", func := "loop.example/g01199/laws.FnExactBesideTrays", spec := "fnExactBesideTrays", inPlace := ["internal/bytealg.CountString", "internal/bytealg.IndexByteString", "internal/bytealg.IndexString", "internal/abi.NoEscape", "internal/bytealg.MakeNoZero"], named := ["unicode/utf8.first", "unicode/utf8.acceptRanges", "internal/bytealg.MaxLen"], apart := false, laid := [("unicode/utf8.acceptRanges", laid_unicode_utf8_acceptRanges), ("unicode/utf8.first", laid_unicode_utf8_first)] }
def FnExactBesideTraysSaid : Prop := fnExactBesideTraysRow.holds Tryd.pinned (OpenSpec.ofChange fnExactBesideTraysSpec)

/-- ITS FALSE NEIGHBOUR: 'it returns false'. Refute it at one input. -/
def fnExactBesideTraysWrong : ChangeSpec := { name := "fnExactBesideTrays", fn := fun _ => fun
  | [d1, d2] => { results := [.lit (.bool false)], args := [d1, d2] }
  | _ => none }
def FnExactBesideTraysWrongFalsely : Prop := fnExactBesideTraysRow.holds Tryd.pinned (OpenSpec.ofChange fnExactBesideTraysWrong)

/-- 'laws.FnExactPartsOf': WHATEVER THE INPUT: true; the input reads as it did. -/
def fnExactPartsOfSpec : ChangeSpec := { name := "fnExactPartsOf", fn := fun _ => fun
  | [d] => { results := [.lit (.bool true)], args := [d] }
  | _ => none }
def fnExactPartsOfRow : OpenClaim := { program := "ythjkeohnjggmiaadoor", sum := "b42cdbc9f769fc6a26861377029b105900bc1c72a0a9e5e540e16063977407e4", func := "loop.example/g01199/laws.FnExactPartsOf", spec := "fnExactPartsOf", inPlace := ["internal/bytealg.CountString", "internal/bytealg.IndexByteString", "internal/bytealg.IndexString"], named := ["unicode/utf8.first", "unicode/utf8.acceptRanges", "internal/bytealg.MaxLen"], apart := false, laid := [("unicode/utf8.acceptRanges", laid_unicode_utf8_acceptRanges), ("unicode/utf8.first", laid_unicode_utf8_first)] }
def FnExactPartsOfSaid : Prop := fnExactPartsOfRow.holds Tryd.pinned (OpenSpec.ofChange fnExactPartsOfSpec)

/-- ITS FALSE NEIGHBOUR: 'it returns false'. Refute it at one input. -/
def fnExactPartsOfWrong : ChangeSpec := { name := "fnExactPartsOf", fn := fun _ => fun
  | [d] => { results := [.lit (.bool false)], args := [d] }
  | _ => none }
def FnExactPartsOfWrongFalsely : Prop := fnExactPartsOfRow.holds Tryd.pinned (OpenSpec.ofChange fnExactPartsOfWrong)

/-- 'laws.FnExactWayBetween': WHATEVER THE INPUT: true; the input reads as it did. -/
def fnExactWayBetweenSpec : ChangeSpec := { name := "fnExactWayBetween", fn := fun _ => fun
  | [d1, d2, d3] => { results := [.lit (.bool true)], args := [d1, d2, d3] }
  | _ => none }
def fnExactWayBetweenRow : OpenClaim := { program := "ythjkeohnjggmiaadoor", sum := "b42cdbc9f769fc6a26861377029b105900bc1c72a0a9e5e540e16063977407e4", func := "loop.example/g01199/laws.FnExactWayBetween", spec := "fnExactWayBetween", inPlace := ["internal/bytealg.CountString", "internal/bytealg.IndexByteString", "internal/bytealg.IndexString"], named := ["unicode/utf8.first", "unicode/utf8.acceptRanges", "internal/bytealg.MaxLen"], apart := false, laid := [("unicode/utf8.acceptRanges", laid_unicode_utf8_acceptRanges), ("unicode/utf8.first", laid_unicode_utf8_first)] }
def FnExactWayBetweenSaid : Prop := fnExactWayBetweenRow.holds Tryd.pinned (OpenSpec.ofChange fnExactWayBetweenSpec)

/-- ITS FALSE NEIGHBOUR: 'it returns false'. Refute it at one input. -/
def fnExactWayBetweenWrong : ChangeSpec := { name := "fnExactWayBetween", fn := fun _ => fun
  | [d1, d2, d3] => { results := [.lit (.bool false)], args := [d1, d2, d3] }
  | _ => none }
def FnExactWayBetweenWrongFalsely : Prop := fnExactWayBetweenRow.holds Tryd.pinned (OpenSpec.ofChange fnExactWayBetweenWrong)

/-- 'laws.FnExactIsWord': WHATEVER THE INPUT: true; the input reads as it did. -/
def fnExactIsWordSpec : ChangeSpec := { name := "fnExactIsWord", fn := fun _ => fun
  | [d] => { results := [.lit (.bool true)], args := [d] }
  | _ => none }
def fnExactIsWordRow : OpenClaim := { program := "ythjkeohnjggmiaadoor", sum := "b42cdbc9f769fc6a26861377029b105900bc1c72a0a9e5e540e16063977407e4", func := "loop.example/g01199/laws.FnExactIsWord", spec := "fnExactIsWord", inPlace := ["internal/bytealg.IndexByteString", "internal/bytealg.IndexString"], named := ["unicode/utf8.first", "unicode/utf8.acceptRanges", "internal/bytealg.MaxLen"], apart := false, laid := [("unicode/utf8.acceptRanges", laid_unicode_utf8_acceptRanges), ("unicode/utf8.first", laid_unicode_utf8_first)] }
def FnExactIsWordSaid : Prop := fnExactIsWordRow.holds Tryd.pinned (OpenSpec.ofChange fnExactIsWordSpec)

/-- ITS FALSE NEIGHBOUR: 'it returns false'. Refute it at one input. -/
def fnExactIsWordWrong : ChangeSpec := { name := "fnExactIsWord", fn := fun _ => fun
  | [d] => { results := [.lit (.bool false)], args := [d] }
  | _ => none }
def FnExactIsWordWrongFalsely : Prop := fnExactIsWordRow.holds Tryd.pinned (OpenSpec.ofChange fnExactIsWordWrong)

/-- 'laws.FnExactShortWord': WHATEVER THE INPUT: true; the input reads as it did. -/
def fnExactShortWordSpec : ChangeSpec := { name := "fnExactShortWord", fn := fun _ => fun
  | [d] => { results := [.lit (.bool true)], args := [d] }
  | _ => none }
def fnExactShortWordRow : OpenClaim := { program := "ythjkeohnjggmiaadoor", sum := "b42cdbc9f769fc6a26861377029b105900bc1c72a0a9e5e540e16063977407e4", func := "loop.example/g01199/laws.FnExactShortWord", spec := "fnExactShortWord", inPlace := ["internal/bytealg.IndexByteString", "internal/bytealg.IndexString"], named := ["unicode/utf8.first", "unicode/utf8.acceptRanges", "internal/bytealg.MaxLen"], apart := false, laid := [("unicode/utf8.acceptRanges", laid_unicode_utf8_acceptRanges), ("unicode/utf8.first", laid_unicode_utf8_first)] }
def FnExactShortWordSaid : Prop := fnExactShortWordRow.holds Tryd.pinned (OpenSpec.ofChange fnExactShortWordSpec)

/-- ITS FALSE NEIGHBOUR: 'it returns false'. Refute it at one input. -/
def fnExactShortWordWrong : ChangeSpec := { name := "fnExactShortWord", fn := fun _ => fun
  | [d] => { results := [.lit (.bool false)], args := [d] }
  | _ => none }
def FnExactShortWordWrongFalsely : Prop := fnExactShortWordRow.holds Tryd.pinned (OpenSpec.ofChange fnExactShortWordWrong)

/-- 'laws.FnExactOppositeWord': WHATEVER THE INPUT: true; the input reads as it did. -/
def fnExactOppositeWordSpec : ChangeSpec := { name := "fnExactOppositeWord", fn := fun _ => fun
  | [d] => { results := [.lit (.bool true)], args := [d] }
  | _ => none }
def fnExactOppositeWordRow : OpenClaim := { program := "ythjkeohnjggmiaadoor", sum := "b42cdbc9f769fc6a26861377029b105900bc1c72a0a9e5e540e16063977407e4", func := "loop.example/g01199/laws.FnExactOppositeWord", spec := "fnExactOppositeWord", inPlace := ["internal/bytealg.IndexByteString", "internal/bytealg.IndexString"], named := ["unicode/utf8.first", "unicode/utf8.acceptRanges", "internal/bytealg.MaxLen"], apart := false, laid := [("unicode/utf8.acceptRanges", laid_unicode_utf8_acceptRanges), ("unicode/utf8.first", laid_unicode_utf8_first)] }
def FnExactOppositeWordSaid : Prop := fnExactOppositeWordRow.holds Tryd.pinned (OpenSpec.ofChange fnExactOppositeWordSpec)

/-- ITS FALSE NEIGHBOUR: 'it returns false'. Refute it at one input. -/
def fnExactOppositeWordWrong : ChangeSpec := { name := "fnExactOppositeWord", fn := fun _ => fun
  | [d] => { results := [.lit (.bool false)], args := [d] }
  | _ => none }
def FnExactOppositeWordWrongFalsely : Prop := fnExactOppositeWordRow.holds Tryd.pinned (OpenSpec.ofChange fnExactOppositeWordWrong)

/-- 'laws.FnExactTurnWord': WHATEVER THE INPUT: true; the input reads as it did. -/
def fnExactTurnWordSpec : ChangeSpec := { name := "fnExactTurnWord", fn := fun _ => fun
  | [d1, d2] => { results := [.lit (.bool true)], args := [d1, d2] }
  | _ => none }
def fnExactTurnWordRow : OpenClaim := { program := "ythjkeohnjggmiaadoor", sum := "b42cdbc9f769fc6a26861377029b105900bc1c72a0a9e5e540e16063977407e4", func := "loop.example/g01199/laws.FnExactTurnWord", spec := "fnExactTurnWord", inPlace := ["internal/bytealg.IndexByteString", "internal/bytealg.IndexString"], named := ["unicode/utf8.first", "unicode/utf8.acceptRanges", "internal/bytealg.MaxLen"], apart := false, laid := [("unicode/utf8.acceptRanges", laid_unicode_utf8_acceptRanges), ("unicode/utf8.first", laid_unicode_utf8_first)] }
def FnExactTurnWordSaid : Prop := fnExactTurnWordRow.holds Tryd.pinned (OpenSpec.ofChange fnExactTurnWordSpec)

/-- ITS FALSE NEIGHBOUR: 'it returns false'. Refute it at one input. -/
def fnExactTurnWordWrong : ChangeSpec := { name := "fnExactTurnWord", fn := fun _ => fun
  | [d1, d2] => { results := [.lit (.bool false)], args := [d1, d2] }
  | _ => none }
def FnExactTurnWordWrongFalsely : Prop := fnExactTurnWordRow.holds Tryd.pinned (OpenSpec.ofChange fnExactTurnWordWrong)

/-- 'laws.FnExactTiltTray': WHATEVER THE INPUT: true; the input reads as it did. -/
def fnExactTiltTraySpec : ChangeSpec := { name := "fnExactTiltTray", fn := fun _ => fun
  | [d1, d2] => { results := [.lit (.bool true)], args := [d1, d2] }
  | _ => none }
def fnExactTiltTrayRow : OpenClaim := { program := "ythjkeohnjggmiaadoor", sum := "b42cdbc9f769fc6a26861377029b105900bc1c72a0a9e5e540e16063977407e4", func := "loop.example/g01199/laws.FnExactTiltTray", spec := "fnExactTiltTray", inPlace := ["internal/bytealg.CountString", "internal/bytealg.IndexByteString", "internal/bytealg.IndexString", "internal/abi.NoEscape", "internal/bytealg.MakeNoZero"], unfollowed := true, recurses := true, named := ["unicode/utf8.first", "unicode/utf8.acceptRanges", "internal/bytealg.MaxLen"], apart := false, laid := [("unicode/utf8.acceptRanges", laid_unicode_utf8_acceptRanges), ("unicode/utf8.first", laid_unicode_utf8_first)] }
def FnExactTiltTraySaid : Prop := fnExactTiltTrayRow.holds Tryd.pinned (OpenSpec.ofChange fnExactTiltTraySpec)

/-- ITS FALSE NEIGHBOUR: 'it returns false'. Refute it at one input. -/
def fnExactTiltTrayWrong : ChangeSpec := { name := "fnExactTiltTray", fn := fun _ => fun
  | [d1, d2] => { results := [.lit (.bool false)], args := [d1, d2] }
  | _ => none }
def FnExactTiltTrayWrongFalsely : Prop := fnExactTiltTrayRow.holds Tryd.pinned (OpenSpec.ofChange fnExactTiltTrayWrong)

/- THE SECOND FORM. 'bulk': how many values and letters a reading holds, each counted each time it is reached (what is shared counts as often as it is met; a slice's spare places count too). A statement '..UptoSaid' is the law's where the arguments, and the package variables that the reading takes, are together of bulk at most 1048576: NARROWER than '..Said'. Prove '..Said' where nothing that the law and all that it calls make is longer than what came in: it says more and counts as full. Else prove '..UptoSaid'. A law counts once. -/
mutual
def uptoBulk {H : Type} : DataW H → Nat
  | .lit (.string bytes) => bytes.length + 1
  | .lit _ => 1
  | .nil => 1
  | .ptr d => uptoBulk d + 1
  | .slice elems spare => uptoBulkAll elems + uptoBulkAll spare + 1
  | .agg parts => uptoBulkAll parts + 1
  | .iface _ d => uptoBulk d + 1
  | .map entries => uptoBulkEntries entries + 1
  | .held _ => 1
def uptoBulkAll {H : Type} : List (DataW H) → Nat
  | [] => 0
  | d :: r => uptoBulk d + uptoBulkAll r
def uptoBulkEntries {H : Type} : List (Lit × DataW H) → Nat
  | [] => 0
  | x :: r => uptoBulkEntry x + uptoBulkEntries r
def uptoBulkEntry {H : Type} : Lit × DataW H → Nat
  | (.string bytes, d) => bytes.length + uptoBulk d + 1
  | (_, d) => uptoBulk d + 1
 end
def uptoSmall : (H : Type) → List (DataW H) → Bool := fun _ ds => decide (uptoBulkAll ds ≤ 1048576)
def OpenSpec.upto (s : _root_.Go.ChangeSpec) : _root_.Go.OpenSpec := { _root_.Go.OpenSpec.ofChange s with cond := some uptoSmall }

/-- 'laws.FnExactLeastTray', WHERE WHAT IT READS IS OF BULK AT MOST 1048576: true; the input reads as it did. -/
def fnExactLeastTrayUptoRow : OpenClaim := { program := "ythjkeohnjggmiaadoor", sum := "b42cdbc9f769fc6a26861377029b105900bc1c72a0a9e5e540e16063977407e4", func := "loop.example/g01199/laws.FnExactLeastTray", spec := "fnExactLeastTray", inPlace := ["internal/bytealg.CountString", "internal/bytealg.IndexByteString", "internal/bytealg.IndexString", "internal/abi.NoEscape", "internal/bytealg.MakeNoZero"], named := ["unicode/utf8.first", "unicode/utf8.acceptRanges", "internal/bytealg.MaxLen"], apart := false, laid := [("unicode/utf8.acceptRanges", laid_unicode_utf8_acceptRanges), ("unicode/utf8.first", laid_unicode_utf8_first)], narrowed := true }
def FnExactLeastTrayUptoSaid : Prop := fnExactLeastTrayUptoRow.holds Tryd.pinned (OpenSpec.upto fnExactLeastTraySpec)

/-- 'laws.FnExactKeepersOf', WHERE WHAT IT READS IS OF BULK AT MOST 1048576: true; the input reads as it did. -/
def fnExactKeepersOfUptoRow : OpenClaim := { program := "ythjkeohnjggmiaadoor", sum := "b42cdbc9f769fc6a26861377029b105900bc1c72a0a9e5e540e16063977407e4", func := "loop.example/g01199/laws.FnExactKeepersOf", spec := "fnExactKeepersOf", inPlace := ["internal/bytealg.CountString", "internal/bytealg.IndexByteString", "internal/bytealg.IndexString"], named := ["unicode/utf8.first", "unicode/utf8.acceptRanges", "internal/bytealg.MaxLen"], apart := false, laid := [("unicode/utf8.acceptRanges", laid_unicode_utf8_acceptRanges), ("unicode/utf8.first", laid_unicode_utf8_first)], narrowed := true }
def FnExactKeepersOfUptoSaid : Prop := fnExactKeepersOfUptoRow.holds Tryd.pinned (OpenSpec.upto fnExactKeepersOfSpec)

/-- 'laws.FnExactCropTray', WHERE WHAT IT READS IS OF BULK AT MOST 1048576: true; the input reads as it did. -/
def fnExactCropTrayUptoRow : OpenClaim := { program := "ythjkeohnjggmiaadoor", sum := "b42cdbc9f769fc6a26861377029b105900bc1c72a0a9e5e540e16063977407e4", func := "loop.example/g01199/laws.FnExactCropTray", spec := "fnExactCropTray", inPlace := ["internal/bytealg.CountString", "internal/bytealg.IndexByteString", "internal/bytealg.IndexString", "internal/abi.NoEscape", "internal/bytealg.MakeNoZero"], named := ["unicode/utf8.first", "unicode/utf8.acceptRanges", "internal/bytealg.MaxLen"], apart := false, laid := [("unicode/utf8.acceptRanges", laid_unicode_utf8_acceptRanges), ("unicode/utf8.first", laid_unicode_utf8_first)], narrowed := true }
def FnExactCropTrayUptoSaid : Prop := fnExactCropTrayUptoRow.holds Tryd.pinned (OpenSpec.upto fnExactCropTraySpec)

/-- 'laws.FnExactJoinTrays', WHERE WHAT IT READS IS OF BULK AT MOST 1048576: true; the input reads as it did. -/
def fnExactJoinTraysUptoRow : OpenClaim := { program := "ythjkeohnjggmiaadoor", sum := "b42cdbc9f769fc6a26861377029b105900bc1c72a0a9e5e540e16063977407e4", func := "loop.example/g01199/laws.FnExactJoinTrays", spec := "fnExactJoinTrays", inPlace := ["internal/bytealg.CountString", "internal/bytealg.IndexByteString", "internal/bytealg.IndexString"], named := ["unicode/utf8.first", "unicode/utf8.acceptRanges", "internal/bytealg.MaxLen"], apart := false, laid := [("unicode/utf8.acceptRanges", laid_unicode_utf8_acceptRanges), ("unicode/utf8.first", laid_unicode_utf8_first)], narrowed := true }
def FnExactJoinTraysUptoSaid : Prop := fnExactJoinTraysUptoRow.holds Tryd.pinned (OpenSpec.upto fnExactJoinTraysSpec)

/-- 'laws.FnExactBesideTrays', WHERE WHAT IT READS IS OF BULK AT MOST 1048576: true; the input reads as it did. -/
def fnExactBesideTraysUptoRow : OpenClaim := { program := "ythjkeohnjggmiaadoor", sum := "b42cdbc9f769fc6a26861377029b105900bc1c72a0a9e5e540e16063977407e4", func := "loop.example/g01199/laws.FnExactBesideTrays", spec := "fnExactBesideTrays", inPlace := ["internal/bytealg.CountString", "internal/bytealg.IndexByteString", "internal/bytealg.IndexString", "internal/abi.NoEscape", "internal/bytealg.MakeNoZero"], named := ["unicode/utf8.first", "unicode/utf8.acceptRanges", "internal/bytealg.MaxLen"], apart := false, laid := [("unicode/utf8.acceptRanges", laid_unicode_utf8_acceptRanges), ("unicode/utf8.first", laid_unicode_utf8_first)], narrowed := true }
def FnExactBesideTraysUptoSaid : Prop := fnExactBesideTraysUptoRow.holds Tryd.pinned (OpenSpec.upto fnExactBesideTraysSpec)

/-- 'laws.FnExactPartsOf', WHERE WHAT IT READS IS OF BULK AT MOST 1048576: true; the input reads as it did. -/
def fnExactPartsOfUptoRow : OpenClaim := { program := "ythjkeohnjggmiaadoor", sum := "b42cdbc9f769fc6a26861377029b105900bc1c72a0a9e5e540e16063977407e4", func := "loop.example/g01199/laws.FnExactPartsOf", spec := "fnExactPartsOf", inPlace := ["internal/bytealg.CountString", "internal/bytealg.IndexByteString", "internal/bytealg.IndexString"], named := ["unicode/utf8.first", "unicode/utf8.acceptRanges", "internal/bytealg.MaxLen"], apart := false, laid := [("unicode/utf8.acceptRanges", laid_unicode_utf8_acceptRanges), ("unicode/utf8.first", laid_unicode_utf8_first)], narrowed := true }
def FnExactPartsOfUptoSaid : Prop := fnExactPartsOfUptoRow.holds Tryd.pinned (OpenSpec.upto fnExactPartsOfSpec)

/-- 'laws.FnExactWayBetween', WHERE WHAT IT READS IS OF BULK AT MOST 1048576: true; the input reads as it did. -/
def fnExactWayBetweenUptoRow : OpenClaim := { program := "ythjkeohnjggmiaadoor", sum := "b42cdbc9f769fc6a26861377029b105900bc1c72a0a9e5e540e16063977407e4", func := "loop.example/g01199/laws.FnExactWayBetween", spec := "fnExactWayBetween", inPlace := ["internal/bytealg.CountString", "internal/bytealg.IndexByteString", "internal/bytealg.IndexString"], named := ["unicode/utf8.first", "unicode/utf8.acceptRanges", "internal/bytealg.MaxLen"], apart := false, laid := [("unicode/utf8.acceptRanges", laid_unicode_utf8_acceptRanges), ("unicode/utf8.first", laid_unicode_utf8_first)], narrowed := true }
def FnExactWayBetweenUptoSaid : Prop := fnExactWayBetweenUptoRow.holds Tryd.pinned (OpenSpec.upto fnExactWayBetweenSpec)

/-- 'laws.FnExactIsWord', WHERE WHAT IT READS IS OF BULK AT MOST 1048576: true; the input reads as it did. -/
def fnExactIsWordUptoRow : OpenClaim := { program := "ythjkeohnjggmiaadoor", sum := "b42cdbc9f769fc6a26861377029b105900bc1c72a0a9e5e540e16063977407e4", func := "loop.example/g01199/laws.FnExactIsWord", spec := "fnExactIsWord", inPlace := ["internal/bytealg.IndexByteString", "internal/bytealg.IndexString"], named := ["unicode/utf8.first", "unicode/utf8.acceptRanges", "internal/bytealg.MaxLen"], apart := false, laid := [("unicode/utf8.acceptRanges", laid_unicode_utf8_acceptRanges), ("unicode/utf8.first", laid_unicode_utf8_first)], narrowed := true }
def FnExactIsWordUptoSaid : Prop := fnExactIsWordUptoRow.holds Tryd.pinned (OpenSpec.upto fnExactIsWordSpec)

/-- 'laws.FnExactShortWord', WHERE WHAT IT READS IS OF BULK AT MOST 1048576: true; the input reads as it did. -/
def fnExactShortWordUptoRow : OpenClaim := { program := "ythjkeohnjggmiaadoor", sum := "b42cdbc9f769fc6a26861377029b105900bc1c72a0a9e5e540e16063977407e4", func := "loop.example/g01199/laws.FnExactShortWord", spec := "fnExactShortWord", inPlace := ["internal/bytealg.IndexByteString", "internal/bytealg.IndexString"], named := ["unicode/utf8.first", "unicode/utf8.acceptRanges", "internal/bytealg.MaxLen"], apart := false, laid := [("unicode/utf8.acceptRanges", laid_unicode_utf8_acceptRanges), ("unicode/utf8.first", laid_unicode_utf8_first)], narrowed := true }
def FnExactShortWordUptoSaid : Prop := fnExactShortWordUptoRow.holds Tryd.pinned (OpenSpec.upto fnExactShortWordSpec)

/-- 'laws.FnExactOppositeWord', WHERE WHAT IT READS IS OF BULK AT MOST 1048576: true; the input reads as it did. -/
def fnExactOppositeWordUptoRow : OpenClaim := { program := "ythjkeohnjggmiaadoor", sum := "b42cdbc9f769fc6a26861377029b105900bc1c72a0a9e5e540e16063977407e4", func := "loop.example/g01199/laws.FnExactOppositeWord", spec := "fnExactOppositeWord", inPlace := ["internal/bytealg.IndexByteString", "internal/bytealg.IndexString"], named := ["unicode/utf8.first", "unicode/utf8.acceptRanges", "internal/bytealg.MaxLen"], apart := false, laid := [("unicode/utf8.acceptRanges", laid_unicode_utf8_acceptRanges), ("unicode/utf8.first", laid_unicode_utf8_first)], narrowed := true }
def FnExactOppositeWordUptoSaid : Prop := fnExactOppositeWordUptoRow.holds Tryd.pinned (OpenSpec.upto fnExactOppositeWordSpec)

/-- 'laws.FnExactTurnWord', WHERE WHAT IT READS IS OF BULK AT MOST 1048576: true; the input reads as it did. -/
def fnExactTurnWordUptoRow : OpenClaim := { program := "ythjkeohnjggmiaadoor", sum := "b42cdbc9f769fc6a26861377029b105900bc1c72a0a9e5e540e16063977407e4", func := "loop.example/g01199/laws.FnExactTurnWord", spec := "fnExactTurnWord", inPlace := ["internal/bytealg.IndexByteString", "internal/bytealg.IndexString"], named := ["unicode/utf8.first", "unicode/utf8.acceptRanges", "internal/bytealg.MaxLen"], apart := false, laid := [("unicode/utf8.acceptRanges", laid_unicode_utf8_acceptRanges), ("unicode/utf8.first", laid_unicode_utf8_first)], narrowed := true }
def FnExactTurnWordUptoSaid : Prop := fnExactTurnWordUptoRow.holds Tryd.pinned (OpenSpec.upto fnExactTurnWordSpec)

/-- 'laws.FnExactTiltTray', WHERE WHAT IT READS IS OF BULK AT MOST 1048576: true; the input reads as it did. -/
def fnExactTiltTrayUptoRow : OpenClaim := { program := "ythjkeohnjggmiaadoor", sum := "b42cdbc9f769fc6a26861377029b105900bc1c72a0a9e5e540e16063977407e4", func := "loop.example/g01199/laws.FnExactTiltTray", spec := "fnExactTiltTray", inPlace := ["internal/bytealg.CountString", "internal/bytealg.IndexByteString", "internal/bytealg.IndexString", "internal/abi.NoEscape", "internal/bytealg.MakeNoZero"], unfollowed := true, recurses := true, named := ["unicode/utf8.first", "unicode/utf8.acceptRanges", "internal/bytealg.MaxLen"], apart := false, laid := [("unicode/utf8.acceptRanges", laid_unicode_utf8_acceptRanges), ("unicode/utf8.first", laid_unicode_utf8_first)], narrowed := true }
def FnExactTiltTrayUptoSaid : Prop := fnExactTiltTrayUptoRow.holds Tryd.pinned (OpenSpec.upto fnExactTiltTraySpec)

end Rows
end Go.Proofs.YthjkeohnjggmiaaDoor
