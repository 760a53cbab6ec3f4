/-
  NARROWER THAN 'FOR EVERY INPUT', by the rows' own cells (each row's printed sentence says how): FnExactComesBack: laid · FnExactPermutationOf: laid · FnExactOrderOfWord: laid · FnExactCyclesOfWord: laid · FnExactSignOfWord: laid · FnExactGateTable: laid · FnExactGateNumber: laid · FnExactWordForGate: laid · FnExactCountGates: laid · FnExactIsReversible: laid.
  DERIVED. THE GIVEN ROWS OF THIS SEAT. 10 by the template 'for every input the law returns true; each argument reads behind the call as it read before'; 0 by the template 'total and deterministic' (their statements: YtbppbbkcampglaaGreatDoorTotals.lean).
  GIVEN WITH THE SEED: the statements are not yours to turn. If you find one false, say at which input.
  Laid BY PROGRAM, IN A SANDBOX (cutbox-rows.mjs): the forced cells as the released guide's own fill.sh prints them over the translation 42aabd4d8f7ecb7a… (all of the seat's roots in one cut). By AI agents, Wed Nov 11 2026. No macro, syntax, notation, axiom, sorry.
-/
import Derived.Test.YtbppbbkcampglaaGreatDoorChecked
import GoSem.PinnedTables
import GoSem.Claim
import GoSem.ClaimJoined
import GoSem.ClaimMapViews
import Derived.JoinedTies
import Derived.KernelRfl
namespace Go.Proofs.YtbppbbkcampglaaGreatDoor
/- THE CELL 'sum', in the pinned program and in every row, IS THE sha256 OF THE DUMP (.gsa) THAT YtbppbbkcampglaaGreatDoorProg.lean LOADS. Nothing in Lean hashes anything: it is a label: what it is worth is what the hold of that sum in a sandbox is worth. -/
noncomputable def Tryz.pinned : Pinned := { name := "ytbppbbkcampglaagreatdoor", sum := "42aabd4d8f7ecb7afddb88b466f3333bbe5082f71456e57696306fc92d4dc663", checked := Tryz.checked }
namespace Rows
def none {H : Type} : Left H := { results := [], args := [] }

/- WHAT THE LISTED PACKAGE-LEVEL VARIABLES READ AS WHEN THE CALL BEGINS. Each datum BY PROGRAM (the guide's laid-datum.mjs) off the statement by which the dump's own 'gosem.cut.vars' lays the variable. In a bare row this is a premise. The card (YtbppbbkcampglaaGreatDoorCards.lean) ties it to the program's text. -/
def laid_unicode_utf8_acceptRanges {H : Type} : DataW H := .agg [.agg [.lit (.int .u8 128), .lit (.int .u8 191)], .agg [.lit (.int .u8 160), .lit (.int .u8 191)], .agg [.lit (.int .u8 128), .lit (.int .u8 159)], .agg [.lit (.int .u8 144), .lit (.int .u8 191)], .agg [.lit (.int .u8 128), .lit (.int .u8 143)], .agg [.lit (.int .u8 0), .lit (.int .u8 0)], .agg [.lit (.int .u8 0), .lit (.int .u8 0)], .agg [.lit (.int .u8 0), .lit (.int .u8 0)], .agg [.lit (.int .u8 0), .lit (.int .u8 0)], .agg [.lit (.int .u8 0), .lit (.int .u8 0)], .agg [.lit (.int .u8 0), .lit (.int .u8 0)], .agg [.lit (.int .u8 0), .lit (.int .u8 0)], .agg [.lit (.int .u8 0), .lit (.int .u8 0)], .agg [.lit (.int .u8 0), .lit (.int .u8 0)], .agg [.lit (.int .u8 0), .lit (.int .u8 0)], .agg [.lit (.int .u8 0), .lit (.int .u8 0)]]
/-- One of Go's own tables, pinned by name: the form's constant. -/
def laid_unicode_utf8_first : DataW Unit := Go.Pinned.utf8First

/-- 'laws.FnExactComesBack': WHATEVER THE INPUT: true; the input reads as it did. -/
def fnExactComesBackSpec : ChangeSpec := { name := "fnExactComesBack", fn := fun _ => fun
  | [d1, d2] => { results := [.lit (.bool true)], args := [d1, d2] }
  | _ => none }
def fnExactComesBackRow : OpenClaim := { program := "ytbppbbkcampglaagreatdoor", sum := "42aabd4d8f7ecb7afddb88b466f3333bbe5082f71456e57696306fc92d4dc663", func := "loop.example/g01199/laws.FnExactComesBack", spec := "fnExactComesBack", inPlace := ["internal/bytealg.CountString", "internal/bytealg.IndexByteString", "internal/bytealg.IndexString"], unfollowed := true, recurses := true, named := ["unicode/utf8.first", "unicode/utf8.acceptRanges", "internal/bytealg.MaxLen"], plainKeys := false, apart := false, laid := [("unicode/utf8.acceptRanges", laid_unicode_utf8_acceptRanges), ("unicode/utf8.first", laid_unicode_utf8_first)] }
def FnExactComesBackSaid : Prop := fnExactComesBackRow.holds Tryz.pinned (OpenSpec.ofChange fnExactComesBackSpec)

/-- ITS FALSE NEIGHBOUR: 'it returns false'. Refute it at one input. -/
def fnExactComesBackWrong : ChangeSpec := { name := "fnExactComesBack", fn := fun _ => fun
  | [d1, d2] => { results := [.lit (.bool false)], args := [d1, d2] }
  | _ => none }
def FnExactComesBackWrongFalsely : Prop := fnExactComesBackRow.holds Tryz.pinned (OpenSpec.ofChange fnExactComesBackWrong)

/-- 'laws.FnExactPermutationOf': WHATEVER THE INPUT: true; the input reads as it did. -/
def fnExactPermutationOfSpec : ChangeSpec := { name := "fnExactPermutationOf", fn := fun _ => fun
  | [d1, d2] => { results := [.lit (.bool true)], args := [d1, d2] }
  | _ => none }
def fnExactPermutationOfRow : OpenClaim := { program := "ytbppbbkcampglaagreatdoor", sum := "42aabd4d8f7ecb7afddb88b466f3333bbe5082f71456e57696306fc92d4dc663", func := "loop.example/g01199/laws.FnExactPermutationOf", spec := "fnExactPermutationOf", inPlace := ["internal/bytealg.CountString", "internal/bytealg.IndexByteString", "internal/bytealg.IndexString"], unfollowed := true, recurses := true, named := ["unicode/utf8.first", "unicode/utf8.acceptRanges", "internal/bytealg.MaxLen"], plainKeys := false, apart := false, laid := [("unicode/utf8.acceptRanges", laid_unicode_utf8_acceptRanges), ("unicode/utf8.first", laid_unicode_utf8_first)] }
def FnExactPermutationOfSaid : Prop := fnExactPermutationOfRow.holds Tryz.pinned (OpenSpec.ofChange fnExactPermutationOfSpec)

/-- ITS FALSE NEIGHBOUR: 'it returns false'. Refute it at one input. -/
def fnExactPermutationOfWrong : ChangeSpec := { name := "fnExactPermutationOf", fn := fun _ => fun
  | [d1, d2] => { results := [.lit (.bool false)], args := [d1, d2] }
  | _ => none }
def FnExactPermutationOfWrongFalsely : Prop := fnExactPermutationOfRow.holds Tryz.pinned (OpenSpec.ofChange fnExactPermutationOfWrong)

/-- 'laws.FnExactOrderOfWord': WHATEVER THE INPUT: true; the input reads as it did. -/
def fnExactOrderOfWordSpec : ChangeSpec := { name := "fnExactOrderOfWord", fn := fun _ => fun
  | [d1, d2] => { results := [.lit (.bool true)], args := [d1, d2] }
  | _ => none }
def fnExactOrderOfWordRow : OpenClaim := { program := "ytbppbbkcampglaagreatdoor", sum := "42aabd4d8f7ecb7afddb88b466f3333bbe5082f71456e57696306fc92d4dc663", func := "loop.example/g01199/laws.FnExactOrderOfWord", spec := "fnExactOrderOfWord", inPlace := ["internal/bytealg.CountString", "internal/bytealg.IndexByteString", "internal/bytealg.IndexString"], unfollowed := true, recurses := true, named := ["unicode/utf8.first", "unicode/utf8.acceptRanges", "internal/bytealg.MaxLen"], plainKeys := false, apart := false, laid := [("unicode/utf8.acceptRanges", laid_unicode_utf8_acceptRanges), ("unicode/utf8.first", laid_unicode_utf8_first)] }
def FnExactOrderOfWordSaid : Prop := fnExactOrderOfWordRow.holds Tryz.pinned (OpenSpec.ofChange fnExactOrderOfWordSpec)

/-- ITS FALSE NEIGHBOUR: 'it returns false'. Refute it at one input. -/
def fnExactOrderOfWordWrong : ChangeSpec := { name := "fnExactOrderOfWord", fn := fun _ => fun
  | [d1, d2] => { results := [.lit (.bool false)], args := [d1, d2] }
  | _ => none }
def FnExactOrderOfWordWrongFalsely : Prop := fnExactOrderOfWordRow.holds Tryz.pinned (OpenSpec.ofChange fnExactOrderOfWordWrong)

/-- 'laws.FnExactCyclesOfWord': WHATEVER THE INPUT: true; the input reads as it did. -/
def fnExactCyclesOfWordSpec : ChangeSpec := { name := "fnExactCyclesOfWord", fn := fun _ => fun
  | [d1, d2] => { results := [.lit (.bool true)], args := [d1, d2] }
  | _ => none }
def fnExactCyclesOfWordRow : OpenClaim := { program := "ytbppbbkcampglaagreatdoor", sum := "42aabd4d8f7ecb7afddb88b466f3333bbe5082f71456e57696306fc92d4dc663", func := "loop.example/g01199/laws.FnExactCyclesOfWord", spec := "fnExactCyclesOfWord", inPlace := ["internal/bytealg.CountString", "internal/bytealg.IndexByteString", "internal/bytealg.IndexString"], unfollowed := true, recurses := true, named := ["unicode/utf8.first", "unicode/utf8.acceptRanges", "internal/bytealg.MaxLen"], plainKeys := false, apart := false, laid := [("unicode/utf8.acceptRanges", laid_unicode_utf8_acceptRanges), ("unicode/utf8.first", laid_unicode_utf8_first)] }
def FnExactCyclesOfWordSaid : Prop := fnExactCyclesOfWordRow.holds Tryz.pinned (OpenSpec.ofChange fnExactCyclesOfWordSpec)

/-- ITS FALSE NEIGHBOUR: 'it returns false'. Refute it at one input. -/
def fnExactCyclesOfWordWrong : ChangeSpec := { name := "fnExactCyclesOfWord", fn := fun _ => fun
  | [d1, d2] => { results := [.lit (.bool false)], args := [d1, d2] }
  | _ => none }
def FnExactCyclesOfWordWrongFalsely : Prop := fnExactCyclesOfWordRow.holds Tryz.pinned (OpenSpec.ofChange fnExactCyclesOfWordWrong)

/-- 'laws.FnExactSignOfWord': WHATEVER THE INPUT: true; the input reads as it did. -/
def fnExactSignOfWordSpec : ChangeSpec := { name := "fnExactSignOfWord", fn := fun _ => fun
  | [d1, d2] => { results := [.lit (.bool true)], args := [d1, d2] }
  | _ => none }
def fnExactSignOfWordRow : OpenClaim := { program := "ytbppbbkcampglaagreatdoor", sum := "42aabd4d8f7ecb7afddb88b466f3333bbe5082f71456e57696306fc92d4dc663", func := "loop.example/g01199/laws.FnExactSignOfWord", spec := "fnExactSignOfWord", inPlace := ["internal/bytealg.CountString", "internal/bytealg.IndexByteString", "internal/bytealg.IndexString"], unfollowed := true, recurses := true, named := ["unicode/utf8.first", "unicode/utf8.acceptRanges", "internal/bytealg.MaxLen"], plainKeys := false, apart := false, laid := [("unicode/utf8.acceptRanges", laid_unicode_utf8_acceptRanges), ("unicode/utf8.first", laid_unicode_utf8_first)] }
def FnExactSignOfWordSaid : Prop := fnExactSignOfWordRow.holds Tryz.pinned (OpenSpec.ofChange fnExactSignOfWordSpec)

/-- ITS FALSE NEIGHBOUR: 'it returns false'. Refute it at one input. -/
def fnExactSignOfWordWrong : ChangeSpec := { name := "fnExactSignOfWord", fn := fun _ => fun
  | [d1, d2] => { results := [.lit (.bool false)], args := [d1, d2] }
  | _ => none }
def FnExactSignOfWordWrongFalsely : Prop := fnExactSignOfWordRow.holds Tryz.pinned (OpenSpec.ofChange fnExactSignOfWordWrong)

/-- 'laws.FnExactGateTable': WHATEVER THE INPUT: true; the input reads as it did. -/
def fnExactGateTableSpec : ChangeSpec := { name := "fnExactGateTable", fn := fun _ => fun
  | [d1, d2, d3, d4] => { results := [.lit (.bool true)], args := [d1, d2, d3, d4] }
  | _ => none }
def fnExactGateTableRow : OpenClaim := { program := "ytbppbbkcampglaagreatdoor", sum := "42aabd4d8f7ecb7afddb88b466f3333bbe5082f71456e57696306fc92d4dc663", func := "loop.example/g01199/laws.FnExactGateTable", spec := "fnExactGateTable", inPlace := ["internal/bytealg.CountString", "internal/bytealg.IndexByteString", "internal/bytealg.IndexString"], unfollowed := true, recurses := true, named := ["unicode/utf8.first", "unicode/utf8.acceptRanges", "internal/bytealg.MaxLen"], plainKeys := false, apart := false, laid := [("unicode/utf8.acceptRanges", laid_unicode_utf8_acceptRanges), ("unicode/utf8.first", laid_unicode_utf8_first)] }
def FnExactGateTableSaid : Prop := fnExactGateTableRow.holds Tryz.pinned (OpenSpec.ofChange fnExactGateTableSpec)

/-- ITS FALSE NEIGHBOUR: 'it returns false'. Refute it at one input. -/
def fnExactGateTableWrong : ChangeSpec := { name := "fnExactGateTable", fn := fun _ => fun
  | [d1, d2, d3, d4] => { results := [.lit (.bool false)], args := [d1, d2, d3, d4] }
  | _ => none }
def FnExactGateTableWrongFalsely : Prop := fnExactGateTableRow.holds Tryz.pinned (OpenSpec.ofChange fnExactGateTableWrong)

/-- 'laws.FnExactGateNumber': WHATEVER THE INPUT: true; the input reads as it did. -/
def fnExactGateNumberSpec : ChangeSpec := { name := "fnExactGateNumber", fn := fun _ => fun
  | [d1, d2, d3, d4] => { results := [.lit (.bool true)], args := [d1, d2, d3, d4] }
  | _ => none }
def fnExactGateNumberRow : OpenClaim := { program := "ytbppbbkcampglaagreatdoor", sum := "42aabd4d8f7ecb7afddb88b466f3333bbe5082f71456e57696306fc92d4dc663", func := "loop.example/g01199/laws.FnExactGateNumber", spec := "fnExactGateNumber", inPlace := ["internal/bytealg.CountString", "internal/bytealg.IndexByteString", "internal/bytealg.IndexString"], unfollowed := true, recurses := true, named := ["unicode/utf8.first", "unicode/utf8.acceptRanges", "internal/bytealg.MaxLen"], plainKeys := false, apart := false, laid := [("unicode/utf8.acceptRanges", laid_unicode_utf8_acceptRanges), ("unicode/utf8.first", laid_unicode_utf8_first)] }
def FnExactGateNumberSaid : Prop := fnExactGateNumberRow.holds Tryz.pinned (OpenSpec.ofChange fnExactGateNumberSpec)

/-- ITS FALSE NEIGHBOUR: 'it returns false'. Refute it at one input. -/
def fnExactGateNumberWrong : ChangeSpec := { name := "fnExactGateNumber", fn := fun _ => fun
  | [d1, d2, d3, d4] => { results := [.lit (.bool false)], args := [d1, d2, d3, d4] }
  | _ => none }
def FnExactGateNumberWrongFalsely : Prop := fnExactGateNumberRow.holds Tryz.pinned (OpenSpec.ofChange fnExactGateNumberWrong)

/-- 'laws.FnExactWordForGate': WHATEVER THE INPUT: true; the input reads as it did. -/
def fnExactWordForGateSpec : ChangeSpec := { name := "fnExactWordForGate", fn := fun _ => fun
  | [d1, d2, d3, d4] => { results := [.lit (.bool true)], args := [d1, d2, d3, d4] }
  | _ => none }
def fnExactWordForGateRow : OpenClaim := { program := "ytbppbbkcampglaagreatdoor", sum := "42aabd4d8f7ecb7afddb88b466f3333bbe5082f71456e57696306fc92d4dc663", func := "loop.example/g01199/laws.FnExactWordForGate", spec := "fnExactWordForGate", inPlace := ["internal/bytealg.CountString", "internal/bytealg.IndexByteString", "internal/bytealg.IndexString"], unfollowed := true, recurses := true, named := ["unicode/utf8.first", "unicode/utf8.acceptRanges", "internal/bytealg.MaxLen"], plainKeys := false, apart := false, laid := [("unicode/utf8.acceptRanges", laid_unicode_utf8_acceptRanges), ("unicode/utf8.first", laid_unicode_utf8_first)] }
def FnExactWordForGateSaid : Prop := fnExactWordForGateRow.holds Tryz.pinned (OpenSpec.ofChange fnExactWordForGateSpec)

/-- ITS FALSE NEIGHBOUR: 'it returns false'. Refute it at one input. -/
def fnExactWordForGateWrong : ChangeSpec := { name := "fnExactWordForGate", fn := fun _ => fun
  | [d1, d2, d3, d4] => { results := [.lit (.bool false)], args := [d1, d2, d3, d4] }
  | _ => none }
def FnExactWordForGateWrongFalsely : Prop := fnExactWordForGateRow.holds Tryz.pinned (OpenSpec.ofChange fnExactWordForGateWrong)

/-- 'laws.FnExactCountGates': WHATEVER THE INPUT: true; the input reads as it did. -/
def fnExactCountGatesSpec : ChangeSpec := { name := "fnExactCountGates", fn := fun _ => fun
  | [d1, d2, d3] => { results := [.lit (.bool true)], args := [d1, d2, d3] }
  | _ => none }
def fnExactCountGatesRow : OpenClaim := { program := "ytbppbbkcampglaagreatdoor", sum := "42aabd4d8f7ecb7afddb88b466f3333bbe5082f71456e57696306fc92d4dc663", func := "loop.example/g01199/laws.FnExactCountGates", spec := "fnExactCountGates", inPlace := ["internal/bytealg.CountString", "internal/bytealg.IndexByteString", "internal/bytealg.IndexString"], unfollowed := true, recurses := true, named := ["unicode/utf8.first", "unicode/utf8.acceptRanges", "internal/bytealg.MaxLen"], plainKeys := false, apart := false, laid := [("unicode/utf8.acceptRanges", laid_unicode_utf8_acceptRanges), ("unicode/utf8.first", laid_unicode_utf8_first)] }
def FnExactCountGatesSaid : Prop := fnExactCountGatesRow.holds Tryz.pinned (OpenSpec.ofChange fnExactCountGatesSpec)

/-- ITS FALSE NEIGHBOUR: 'it returns false'. Refute it at one input. -/
def fnExactCountGatesWrong : ChangeSpec := { name := "fnExactCountGates", fn := fun _ => fun
  | [d1, d2, d3] => { results := [.lit (.bool false)], args := [d1, d2, d3] }
  | _ => none }
def FnExactCountGatesWrongFalsely : Prop := fnExactCountGatesRow.holds Tryz.pinned (OpenSpec.ofChange fnExactCountGatesWrong)

/-- 'laws.FnExactIsReversible': WHATEVER THE INPUT: true; the input reads as it did. -/
def fnExactIsReversibleSpec : ChangeSpec := { name := "fnExactIsReversible", fn := fun _ => fun
  | [d1, d2, d3, d4] => { results := [.lit (.bool true)], args := [d1, d2, d3, d4] }
  | _ => none }
def fnExactIsReversibleRow : OpenClaim := { program := "ytbppbbkcampglaagreatdoor", sum := "42aabd4d8f7ecb7afddb88b466f3333bbe5082f71456e57696306fc92d4dc663", func := "loop.example/g01199/laws.FnExactIsReversible", spec := "fnExactIsReversible", inPlace := ["internal/bytealg.CountString", "internal/bytealg.IndexByteString", "internal/bytealg.IndexString"], unfollowed := true, recurses := true, named := ["unicode/utf8.first", "unicode/utf8.acceptRanges", "internal/bytealg.MaxLen"], plainKeys := false, apart := false, laid := [("unicode/utf8.acceptRanges", laid_unicode_utf8_acceptRanges), ("unicode/utf8.first", laid_unicode_utf8_first)] }
def FnExactIsReversibleSaid : Prop := fnExactIsReversibleRow.holds Tryz.pinned (OpenSpec.ofChange fnExactIsReversibleSpec)

/-- ITS FALSE NEIGHBOUR: 'it returns false'. Refute it at one input. -/
def fnExactIsReversibleWrong : ChangeSpec := { name := "fnExactIsReversible", fn := fun _ => fun
  | [d1, d2, d3, d4] => { results := [.lit (.bool false)], args := [d1, d2, d3, d4] }
  | _ => none }
def FnExactIsReversibleWrongFalsely : Prop := fnExactIsReversibleRow.holds Tryz.pinned (OpenSpec.ofChange fnExactIsReversibleWrong)

/- THE SECOND FORM. 'bulk': how many values and letters a reading holds, each counted each time it is reached (what is shared counts as often as it is met; a slice's spare places count too). A statement '..UptoSaid' is the law's where the arguments, and the package variables that the reading takes, are together of bulk at most 1048576: NARROWER than '..Said'. Prove '..Said' where nothing that the law and all that it calls make is longer than what came in: it says more and counts as full. Else prove '..UptoSaid'. A law counts once. -/
mutual
def uptoBulk {H : Type} : DataW H → Nat
  | .lit (.string bytes) => bytes.length + 1
  | .lit _ => 1
  | .nil => 1
  | .ptr d => uptoBulk d + 1
  | .slice elems spare => uptoBulkAll elems + uptoBulkAll spare + 1
  | .agg parts => uptoBulkAll parts + 1
  | .iface _ d => uptoBulk d + 1
  | .map entries => uptoBulkEntries entries + 1
  | .held _ => 1
def uptoBulkAll {H : Type} : List (DataW H) → Nat
  | [] => 0
  | d :: r => uptoBulk d + uptoBulkAll r
def uptoBulkEntries {H : Type} : List (Lit × DataW H) → Nat
  | [] => 0
  | x :: r => uptoBulkEntry x + uptoBulkEntries r
def uptoBulkEntry {H : Type} : Lit × DataW H → Nat
  | (.string bytes, d) => bytes.length + uptoBulk d + 1
  | (_, d) => uptoBulk d + 1
 end
def uptoSmall : (H : Type) → List (DataW H) → Bool := fun _ ds => decide (uptoBulkAll ds ≤ 1048576)
def OpenSpec.upto (s : _root_.Go.ChangeSpec) : _root_.Go.OpenSpec := { _root_.Go.OpenSpec.ofChange s with cond := some uptoSmall }

/-- 'laws.FnExactComesBack', WHERE WHAT IT READS IS OF BULK AT MOST 1048576: true; the input reads as it did. -/
def fnExactComesBackUptoRow : OpenClaim := { program := "ytbppbbkcampglaagreatdoor", sum := "42aabd4d8f7ecb7afddb88b466f3333bbe5082f71456e57696306fc92d4dc663", func := "loop.example/g01199/laws.FnExactComesBack", spec := "fnExactComesBack", inPlace := ["internal/bytealg.CountString", "internal/bytealg.IndexByteString", "internal/bytealg.IndexString"], unfollowed := true, recurses := true, named := ["unicode/utf8.first", "unicode/utf8.acceptRanges", "internal/bytealg.MaxLen"], plainKeys := false, apart := false, laid := [("unicode/utf8.acceptRanges", laid_unicode_utf8_acceptRanges), ("unicode/utf8.first", laid_unicode_utf8_first)], narrowed := true }
def FnExactComesBackUptoSaid : Prop := fnExactComesBackUptoRow.holds Tryz.pinned (OpenSpec.upto fnExactComesBackSpec)

/-- 'laws.FnExactPermutationOf', WHERE WHAT IT READS IS OF BULK AT MOST 1048576: true; the input reads as it did. -/
def fnExactPermutationOfUptoRow : OpenClaim := { program := "ytbppbbkcampglaagreatdoor", sum := "42aabd4d8f7ecb7afddb88b466f3333bbe5082f71456e57696306fc92d4dc663", func := "loop.example/g01199/laws.FnExactPermutationOf", spec := "fnExactPermutationOf", inPlace := ["internal/bytealg.CountString", "internal/bytealg.IndexByteString", "internal/bytealg.IndexString"], unfollowed := true, recurses := true, named := ["unicode/utf8.first", "unicode/utf8.acceptRanges", "internal/bytealg.MaxLen"], plainKeys := false, apart := false, laid := [("unicode/utf8.acceptRanges", laid_unicode_utf8_acceptRanges), ("unicode/utf8.first", laid_unicode_utf8_first)], narrowed := true }
def FnExactPermutationOfUptoSaid : Prop := fnExactPermutationOfUptoRow.holds Tryz.pinned (OpenSpec.upto fnExactPermutationOfSpec)

/-- 'laws.FnExactOrderOfWord', WHERE WHAT IT READS IS OF BULK AT MOST 1048576: true; the input reads as it did. -/
def fnExactOrderOfWordUptoRow : OpenClaim := { program := "ytbppbbkcampglaagreatdoor", sum := "42aabd4d8f7ecb7afddb88b466f3333bbe5082f71456e57696306fc92d4dc663", func := "loop.example/g01199/laws.FnExactOrderOfWord", spec := "fnExactOrderOfWord", inPlace := ["internal/bytealg.CountString", "internal/bytealg.IndexByteString", "internal/bytealg.IndexString"], unfollowed := true, recurses := true, named := ["unicode/utf8.first", "unicode/utf8.acceptRanges", "internal/bytealg.MaxLen"], plainKeys := false, apart := false, laid := [("unicode/utf8.acceptRanges", laid_unicode_utf8_acceptRanges), ("unicode/utf8.first", laid_unicode_utf8_first)], narrowed := true }
def FnExactOrderOfWordUptoSaid : Prop := fnExactOrderOfWordUptoRow.holds Tryz.pinned (OpenSpec.upto fnExactOrderOfWordSpec)

/-- 'laws.FnExactCyclesOfWord', WHERE WHAT IT READS IS OF BULK AT MOST 1048576: true; the input reads as it did. -/
def fnExactCyclesOfWordUptoRow : OpenClaim := { program := "ytbppbbkcampglaagreatdoor", sum := "42aabd4d8f7ecb7afddb88b466f3333bbe5082f71456e57696306fc92d4dc663", func := "loop.example/g01199/laws.FnExactCyclesOfWord", spec := "fnExactCyclesOfWord", inPlace := ["internal/bytealg.CountString", "internal/bytealg.IndexByteString", "internal/bytealg.IndexString"], unfollowed := true, recurses := true, named := ["unicode/utf8.first", "unicode/utf8.acceptRanges", "internal/bytealg.MaxLen"], plainKeys := false, apart := false, laid := [("unicode/utf8.acceptRanges", laid_unicode_utf8_acceptRanges), ("unicode/utf8.first", laid_unicode_utf8_first)], narrowed := true }
def FnExactCyclesOfWordUptoSaid : Prop := fnExactCyclesOfWordUptoRow.holds Tryz.pinned (OpenSpec.upto fnExactCyclesOfWordSpec)

/-- 'laws.FnExactSignOfWord', WHERE WHAT IT READS IS OF BULK AT MOST 1048576: true; the input reads as it did. -/
def fnExactSignOfWordUptoRow : OpenClaim := { program := "ytbppbbkcampglaagreatdoor", sum := "42aabd4d8f7ecb7afddb88b466f3333bbe5082f71456e57696306fc92d4dc663", func := "loop.example/g01199/laws.FnExactSignOfWord", spec := "fnExactSignOfWord", inPlace := ["internal/bytealg.CountString", "internal/bytealg.IndexByteString", "internal/bytealg.IndexString"], unfollowed := true, recurses := true, named := ["unicode/utf8.first", "unicode/utf8.acceptRanges", "internal/bytealg.MaxLen"], plainKeys := false, apart := false, laid := [("unicode/utf8.acceptRanges", laid_unicode_utf8_acceptRanges), ("unicode/utf8.first", laid_unicode_utf8_first)], narrowed := true }
def FnExactSignOfWordUptoSaid : Prop := fnExactSignOfWordUptoRow.holds Tryz.pinned (OpenSpec.upto fnExactSignOfWordSpec)

/-- 'laws.FnExactGateTable', WHERE WHAT IT READS IS OF BULK AT MOST 1048576: true; the input reads as it did. -/
def fnExactGateTableUptoRow : OpenClaim := { program := "ytbppbbkcampglaagreatdoor", sum := "42aabd4d8f7ecb7afddb88b466f3333bbe5082f71456e57696306fc92d4dc663", func := "loop.example/g01199/laws.FnExactGateTable", spec := "fnExactGateTable", inPlace := ["internal/bytealg.CountString", "internal/bytealg.IndexByteString", "internal/bytealg.IndexString"], unfollowed := true, recurses := true, named := ["unicode/utf8.first", "unicode/utf8.acceptRanges", "internal/bytealg.MaxLen"], plainKeys := false, apart := false, laid := [("unicode/utf8.acceptRanges", laid_unicode_utf8_acceptRanges), ("unicode/utf8.first", laid_unicode_utf8_first)], narrowed := true }
def FnExactGateTableUptoSaid : Prop := fnExactGateTableUptoRow.holds Tryz.pinned (OpenSpec.upto fnExactGateTableSpec)

/-- 'laws.FnExactGateNumber', WHERE WHAT IT READS IS OF BULK AT MOST 1048576: true; the input reads as it did. -/
def fnExactGateNumberUptoRow : OpenClaim := { program := "ytbppbbkcampglaagreatdoor", sum := "42aabd4d8f7ecb7afddb88b466f3333bbe5082f71456e57696306fc92d4dc663", func := "loop.example/g01199/laws.FnExactGateNumber", spec := "fnExactGateNumber", inPlace := ["internal/bytealg.CountString", "internal/bytealg.IndexByteString", "internal/bytealg.IndexString"], unfollowed := true, recurses := true, named := ["unicode/utf8.first", "unicode/utf8.acceptRanges", "internal/bytealg.MaxLen"], plainKeys := false, apart := false, laid := [("unicode/utf8.acceptRanges", laid_unicode_utf8_acceptRanges), ("unicode/utf8.first", laid_unicode_utf8_first)], narrowed := true }
def FnExactGateNumberUptoSaid : Prop := fnExactGateNumberUptoRow.holds Tryz.pinned (OpenSpec.upto fnExactGateNumberSpec)

/-- 'laws.FnExactWordForGate', WHERE WHAT IT READS IS OF BULK AT MOST 1048576: true; the input reads as it did. -/
def fnExactWordForGateUptoRow : OpenClaim := { program := "ytbppbbkcampglaagreatdoor", sum := "42aabd4d8f7ecb7afddb88b466f3333bbe5082f71456e57696306fc92d4dc663", func := "loop.example/g01199/laws.FnExactWordForGate", spec := "fnExactWordForGate", inPlace := ["internal/bytealg.CountString", "internal/bytealg.IndexByteString", "internal/bytealg.IndexString"], unfollowed := true, recurses := true, named := ["unicode/utf8.first", "unicode/utf8.acceptRanges", "internal/bytealg.MaxLen"], plainKeys := false, apart := false, laid := [("unicode/utf8.acceptRanges", laid_unicode_utf8_acceptRanges), ("unicode/utf8.first", laid_unicode_utf8_first)], narrowed := true }
def FnExactWordForGateUptoSaid : Prop := fnExactWordForGateUptoRow.holds Tryz.pinned (OpenSpec.upto fnExactWordForGateSpec)

/-- 'laws.FnExactCountGates', WHERE WHAT IT READS IS OF BULK AT MOST 1048576: true; the input reads as it did. -/
def fnExactCountGatesUptoRow : OpenClaim := { program := "ytbppbbkcampglaagreatdoor", sum := "42aabd4d8f7ecb7afddb88b466f3333bbe5082f71456e57696306fc92d4dc663", func := "loop.example/g01199/laws.FnExactCountGates", spec := "fnExactCountGates", inPlace := ["internal/bytealg.CountString", "internal/bytealg.IndexByteString", "internal/bytealg.IndexString"], unfollowed := true, recurses := true, named := ["unicode/utf8.first", "unicode/utf8.acceptRanges", "internal/bytealg.MaxLen"], plainKeys := false, apart := false, laid := [("unicode/utf8.acceptRanges", laid_unicode_utf8_acceptRanges), ("unicode/utf8.first", laid_unicode_utf8_first)], narrowed := true }
def FnExactCountGatesUptoSaid : Prop := fnExactCountGatesUptoRow.holds Tryz.pinned (OpenSpec.upto fnExactCountGatesSpec)

/-- 'laws.FnExactIsReversible', WHERE WHAT IT READS IS OF BULK AT MOST 1048576: true; the input reads as it did. -/
def fnExactIsReversibleUptoRow : OpenClaim := { program := "ytbppbbkcampglaagreatdoor", sum := "42aabd4d8f7ecb7afddb88b466f3333bbe5082f71456e57696306fc92d4dc663", func := "loop.example/g01199/laws.FnExactIsReversible", spec := "fnExactIsReversible", inPlace := ["internal/bytealg.CountString", "internal/bytealg.IndexByteString", "internal/bytealg.IndexString"], unfollowed := true, recurses := true, named := ["unicode/utf8.first", "unicode/utf8.acceptRanges", "internal/bytealg.MaxLen"], plainKeys := false, apart := false, laid := [("unicode/utf8.acceptRanges", laid_unicode_utf8_acceptRanges), ("unicode/utf8.first", laid_unicode_utf8_first)], narrowed := true }
def FnExactIsReversibleUptoSaid : Prop := fnExactIsReversibleUptoRow.holds Tryz.pinned (OpenSpec.upto fnExactIsReversibleSpec)

end Rows
end Go.Proofs.YtbppbbkcampglaaGreatDoor
