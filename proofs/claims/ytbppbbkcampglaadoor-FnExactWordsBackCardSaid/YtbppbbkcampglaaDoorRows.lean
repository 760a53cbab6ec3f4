/-
  NARROWER THAN 'FOR EVERY INPUT', by the rows' own cells (each row's printed sentence says how): FnExactPowerWord: laid · FnExactWordsBack: laid · FnExactGateName: laid · FnExactPeriodOfWord: laid.
  DERIVED. THE GIVEN ROWS OF THIS SEAT. 4 by the template 'for every input the law returns true; each argument reads behind the call as it read before'; 0 by the template 'total and deterministic' (their statements: YtbppbbkcampglaaDoorTotals.lean).
  GIVEN WITH THE SEED: the statements are not yours to turn. If you find one false, say at which input.
  Laid BY PROGRAM, IN A SANDBOX (cutbox-rows.mjs): the forced cells as the released guide's own fill.sh prints them over the translation a24ae2be4ac32687… (all of the seat's roots in one cut). By AI agents, Wed Nov 11 2026. No macro, syntax, notation, axiom, sorry.
-/
import Derived.Test.YtbppbbkcampglaaDoorChecked
import GoSem.PinnedTables
import GoSem.Claim
import GoSem.ClaimJoined
import GoSem.ClaimMapViews
import Derived.JoinedTies
import Derived.KernelRfl
namespace Go.Proofs.YtbppbbkcampglaaDoor
/- THE CELL 'sum', in the pinned program and in every row, IS THE sha256 OF THE DUMP (.gsa) THAT YtbppbbkcampglaaDoorProg.lean LOADS. Nothing in Lean hashes anything: it is a label: what it is worth is what the hold of that sum in a sandbox is worth. -/
noncomputable def Tryd.pinned : Pinned := { name := "ytbppbbkcampglaadoor", sum := "a24ae2be4ac326875025e2ccdf8bbf215a1930b8e8e5355c2c9635038c3ecb95", checked := Tryd.checked }
namespace Rows
def none {H : Type} : Left H := { results := [], args := [] }

/- WHAT THE LISTED PACKAGE-LEVEL VARIABLES READ AS WHEN THE CALL BEGINS. Each datum BY PROGRAM (the guide's laid-datum.mjs) off the statement by which the dump's own 'gosem.cut.vars' lays the variable. In a bare row this is a premise. The card (YtbppbbkcampglaaDoorCards.lean) ties it to the program's text. -/
def laid_unicode_utf8_acceptRanges {H : Type} : DataW H := .agg [.agg [.lit (.int .u8 128), .lit (.int .u8 191)], .agg [.lit (.int .u8 160), .lit (.int .u8 191)], .agg [.lit (.int .u8 128), .lit (.int .u8 159)], .agg [.lit (.int .u8 144), .lit (.int .u8 191)], .agg [.lit (.int .u8 128), .lit (.int .u8 143)], .agg [.lit (.int .u8 0), .lit (.int .u8 0)], .agg [.lit (.int .u8 0), .lit (.int .u8 0)], .agg [.lit (.int .u8 0), .lit (.int .u8 0)], .agg [.lit (.int .u8 0), .lit (.int .u8 0)], .agg [.lit (.int .u8 0), .lit (.int .u8 0)], .agg [.lit (.int .u8 0), .lit (.int .u8 0)], .agg [.lit (.int .u8 0), .lit (.int .u8 0)], .agg [.lit (.int .u8 0), .lit (.int .u8 0)], .agg [.lit (.int .u8 0), .lit (.int .u8 0)], .agg [.lit (.int .u8 0), .lit (.int .u8 0)], .agg [.lit (.int .u8 0), .lit (.int .u8 0)]]
/-- One of Go's own tables, pinned by name: the form's constant. -/
def laid_unicode_utf8_first : DataW Unit := Go.Pinned.utf8First
def laid_loop_example_g01199_impl_gateNames {H : Type} : DataW H := .agg [.lit (.string [122, 101, 114, 111]), .lit (.string [97, 110, 100]), .lit (.string [111, 116, 104, 101, 114]), .lit (.string [102, 105, 114, 115, 116]), .lit (.string [111, 116, 104, 101, 114]), .lit (.string [115, 101, 99, 111, 110, 100]), .lit (.string [120, 111, 114]), .lit (.string [111, 114]), .lit (.string [110, 111, 114]), .lit (.string [120, 110, 111, 114]), .lit (.string [111, 116, 104, 101, 114]), .lit (.string [111, 116, 104, 101, 114]), .lit (.string [111, 116, 104, 101, 114]), .lit (.string [111, 116, 104, 101, 114]), .lit (.string [110, 97, 110, 100]), .lit (.string [111, 110, 101])]

/-- 'laws.FnExactPowerWord': WHATEVER THE INPUT: true; the input reads as it did. -/
def fnExactPowerWordSpec : ChangeSpec := { name := "fnExactPowerWord", fn := fun _ => fun
  | [d1, d2] => { results := [.lit (.bool true)], args := [d1, d2] }
  | _ => none }
def fnExactPowerWordRow : OpenClaim := { program := "ytbppbbkcampglaadoor", sum := "a24ae2be4ac326875025e2ccdf8bbf215a1930b8e8e5355c2c9635038c3ecb95", func := "loop.example/g01199/laws.FnExactPowerWord", spec := "fnExactPowerWord", inPlace := ["internal/bytealg.IndexByteString", "internal/bytealg.IndexString", "internal/abi.NoEscape", "internal/bytealg.MakeNoZero"], named := ["unicode/utf8.first", "unicode/utf8.acceptRanges", "internal/bytealg.MaxLen"], apart := false, laid := [("unicode/utf8.acceptRanges", laid_unicode_utf8_acceptRanges), ("unicode/utf8.first", laid_unicode_utf8_first)] }
def FnExactPowerWordSaid : Prop := fnExactPowerWordRow.holds Tryd.pinned (OpenSpec.ofChange fnExactPowerWordSpec)

/-- ITS FALSE NEIGHBOUR: 'it returns false'. Refute it at one input. -/
def fnExactPowerWordWrong : ChangeSpec := { name := "fnExactPowerWord", fn := fun _ => fun
  | [d1, d2] => { results := [.lit (.bool false)], args := [d1, d2] }
  | _ => none }
def FnExactPowerWordWrongFalsely : Prop := fnExactPowerWordRow.holds Tryd.pinned (OpenSpec.ofChange fnExactPowerWordWrong)

/-- 'laws.FnExactWordsBack': WHATEVER THE INPUT: true; the input reads as it did. -/
def fnExactWordsBackSpec : ChangeSpec := { name := "fnExactWordsBack", fn := fun _ => fun
  | [d1, d2] => { results := [.lit (.bool true)], args := [d1, d2] }
  | _ => none }
def fnExactWordsBackRow : OpenClaim := { program := "ytbppbbkcampglaadoor", sum := "a24ae2be4ac326875025e2ccdf8bbf215a1930b8e8e5355c2c9635038c3ecb95", func := "loop.example/g01199/laws.FnExactWordsBack", spec := "fnExactWordsBack", inPlace := ["internal/bytealg.CountString", "internal/bytealg.IndexByteString", "internal/bytealg.IndexString"], unfollowed := true, recurses := true, named := ["unicode/utf8.first", "unicode/utf8.acceptRanges", "internal/bytealg.MaxLen"], apart := false, laid := [("unicode/utf8.acceptRanges", laid_unicode_utf8_acceptRanges), ("unicode/utf8.first", laid_unicode_utf8_first)] }
def FnExactWordsBackSaid : Prop := fnExactWordsBackRow.holds Tryd.pinned (OpenSpec.ofChange fnExactWordsBackSpec)

/-- ITS FALSE NEIGHBOUR: 'it returns false'. Refute it at one input. -/
def fnExactWordsBackWrong : ChangeSpec := { name := "fnExactWordsBack", fn := fun _ => fun
  | [d1, d2] => { results := [.lit (.bool false)], args := [d1, d2] }
  | _ => none }
def FnExactWordsBackWrongFalsely : Prop := fnExactWordsBackRow.holds Tryd.pinned (OpenSpec.ofChange fnExactWordsBackWrong)

/-- 'laws.FnExactGateName': WHATEVER THE INPUT: true; the input reads as it did. -/
def fnExactGateNameSpec : ChangeSpec := { name := "fnExactGateName", vars := ["loop.example/g01199/impl.gateNames"], fn := fun _ => fun
  | [d, g1] => { results := [.lit (.bool true)], args := [d], vars := [g1] }
  | _ => none }
def fnExactGateNameRow : OpenClaim := { program := "ytbppbbkcampglaadoor", sum := "a24ae2be4ac326875025e2ccdf8bbf215a1930b8e8e5355c2c9635038c3ecb95", func := "loop.example/g01199/laws.FnExactGateName", spec := "fnExactGateName", named := ["loop.example/g01199/impl.gateNames"], apart := false, laid := [("loop.example/g01199/impl.gateNames", laid_loop_example_g01199_impl_gateNames)] }
def FnExactGateNameSaid : Prop := fnExactGateNameRow.holds Tryd.pinned (OpenSpec.ofChange fnExactGateNameSpec)

/-- ITS FALSE NEIGHBOUR: 'it returns false'. Refute it at one input. -/
def fnExactGateNameWrong : ChangeSpec := { name := "fnExactGateName", vars := ["loop.example/g01199/impl.gateNames"], fn := fun _ => fun
  | [d, g1] => { results := [.lit (.bool false)], args := [d], vars := [g1] }
  | _ => none }
def FnExactGateNameWrongFalsely : Prop := fnExactGateNameRow.holds Tryd.pinned (OpenSpec.ofChange fnExactGateNameWrong)

/-- 'laws.FnExactPeriodOfWord': WHATEVER THE INPUT: true; the input reads as it did. -/
def fnExactPeriodOfWordSpec : ChangeSpec := { name := "fnExactPeriodOfWord", fn := fun _ => fun
  | [d1, d2] => { results := [.lit (.bool true)], args := [d1, d2] }
  | _ => none }
def fnExactPeriodOfWordRow : OpenClaim := { program := "ytbppbbkcampglaadoor", sum := "a24ae2be4ac326875025e2ccdf8bbf215a1930b8e8e5355c2c9635038c3ecb95", func := "loop.example/g01199/laws.FnExactPeriodOfWord", spec := "fnExactPeriodOfWord", inPlace := ["internal/bytealg.CountString", "internal/bytealg.IndexByteString", "internal/bytealg.IndexString"], unfollowed := true, recurses := true, named := ["unicode/utf8.first", "unicode/utf8.acceptRanges", "internal/bytealg.MaxLen"], apart := false, laid := [("unicode/utf8.acceptRanges", laid_unicode_utf8_acceptRanges), ("unicode/utf8.first", laid_unicode_utf8_first)] }
def FnExactPeriodOfWordSaid : Prop := fnExactPeriodOfWordRow.holds Tryd.pinned (OpenSpec.ofChange fnExactPeriodOfWordSpec)

/-- ITS FALSE NEIGHBOUR: 'it returns false'. Refute it at one input. -/
def fnExactPeriodOfWordWrong : ChangeSpec := { name := "fnExactPeriodOfWord", fn := fun _ => fun
  | [d1, d2] => { results := [.lit (.bool false)], args := [d1, d2] }
  | _ => none }
def FnExactPeriodOfWordWrongFalsely : Prop := fnExactPeriodOfWordRow.holds Tryd.pinned (OpenSpec.ofChange fnExactPeriodOfWordWrong)

/- THE SECOND FORM. 'bulk': how many values and letters a reading holds, each counted each time it is reached (what is shared counts as often as it is met; a slice's spare places count too). A statement '..UptoSaid' is the law's where the arguments, and the package variables that the reading takes, are together of bulk at most 1048576: NARROWER than '..Said'. Prove '..Said' where nothing that the law and all that it calls make is longer than what came in: it says more and counts as full. Else prove '..UptoSaid'. A law counts once. -/
mutual
def uptoBulk {H : Type} : DataW H → Nat
  | .lit (.string bytes) => bytes.length + 1
  | .lit _ => 1
  | .nil => 1
  | .ptr d => uptoBulk d + 1
  | .slice elems spare => uptoBulkAll elems + uptoBulkAll spare + 1
  | .agg parts => uptoBulkAll parts + 1
  | .iface _ d => uptoBulk d + 1
  | .map entries => uptoBulkEntries entries + 1
  | .held _ => 1
def uptoBulkAll {H : Type} : List (DataW H) → Nat
  | [] => 0
  | d :: r => uptoBulk d + uptoBulkAll r
def uptoBulkEntries {H : Type} : List (Lit × DataW H) → Nat
  | [] => 0
  | x :: r => uptoBulkEntry x + uptoBulkEntries r
def uptoBulkEntry {H : Type} : Lit × DataW H → Nat
  | (.string bytes, d) => bytes.length + uptoBulk d + 1
  | (_, d) => uptoBulk d + 1
 end
def uptoSmall : (H : Type) → List (DataW H) → Bool := fun _ ds => decide (uptoBulkAll ds ≤ 1048576)
def OpenSpec.upto (s : _root_.Go.ChangeSpec) : _root_.Go.OpenSpec := { _root_.Go.OpenSpec.ofChange s with cond := some uptoSmall }

/-- 'laws.FnExactPowerWord', WHERE WHAT IT READS IS OF BULK AT MOST 1048576: true; the input reads as it did. -/
def fnExactPowerWordUptoRow : OpenClaim := { program := "ytbppbbkcampglaadoor", sum := "a24ae2be4ac326875025e2ccdf8bbf215a1930b8e8e5355c2c9635038c3ecb95", func := "loop.example/g01199/laws.FnExactPowerWord", spec := "fnExactPowerWord", inPlace := ["internal/bytealg.IndexByteString", "internal/bytealg.IndexString", "internal/abi.NoEscape", "internal/bytealg.MakeNoZero"], named := ["unicode/utf8.first", "unicode/utf8.acceptRanges", "internal/bytealg.MaxLen"], apart := false, laid := [("unicode/utf8.acceptRanges", laid_unicode_utf8_acceptRanges), ("unicode/utf8.first", laid_unicode_utf8_first)], narrowed := true }
def FnExactPowerWordUptoSaid : Prop := fnExactPowerWordUptoRow.holds Tryd.pinned (OpenSpec.upto fnExactPowerWordSpec)

/-- 'laws.FnExactWordsBack', WHERE WHAT IT READS IS OF BULK AT MOST 1048576: true; the input reads as it did. -/
def fnExactWordsBackUptoRow : OpenClaim := { program := "ytbppbbkcampglaadoor", sum := "a24ae2be4ac326875025e2ccdf8bbf215a1930b8e8e5355c2c9635038c3ecb95", func := "loop.example/g01199/laws.FnExactWordsBack", spec := "fnExactWordsBack", inPlace := ["internal/bytealg.CountString", "internal/bytealg.IndexByteString", "internal/bytealg.IndexString"], unfollowed := true, recurses := true, named := ["unicode/utf8.first", "unicode/utf8.acceptRanges", "internal/bytealg.MaxLen"], apart := false, laid := [("unicode/utf8.acceptRanges", laid_unicode_utf8_acceptRanges), ("unicode/utf8.first", laid_unicode_utf8_first)], narrowed := true }
def FnExactWordsBackUptoSaid : Prop := fnExactWordsBackUptoRow.holds Tryd.pinned (OpenSpec.upto fnExactWordsBackSpec)

/-- 'laws.FnExactGateName', WHERE WHAT IT READS IS OF BULK AT MOST 1048576: true; the input reads as it did. -/
def fnExactGateNameUptoRow : OpenClaim := { program := "ytbppbbkcampglaadoor", sum := "a24ae2be4ac326875025e2ccdf8bbf215a1930b8e8e5355c2c9635038c3ecb95", func := "loop.example/g01199/laws.FnExactGateName", spec := "fnExactGateName", named := ["loop.example/g01199/impl.gateNames"], apart := false, laid := [("loop.example/g01199/impl.gateNames", laid_loop_example_g01199_impl_gateNames)], narrowed := true }
def FnExactGateNameUptoSaid : Prop := fnExactGateNameUptoRow.holds Tryd.pinned (OpenSpec.upto fnExactGateNameSpec)

/-- 'laws.FnExactPeriodOfWord', WHERE WHAT IT READS IS OF BULK AT MOST 1048576: true; the input reads as it did. -/
def fnExactPeriodOfWordUptoRow : OpenClaim := { program := "ytbppbbkcampglaadoor", sum := "a24ae2be4ac326875025e2ccdf8bbf215a1930b8e8e5355c2c9635038c3ecb95", func := "loop.example/g01199/laws.FnExactPeriodOfWord", spec := "fnExactPeriodOfWord", inPlace := ["internal/bytealg.CountString", "internal/bytealg.IndexByteString", "internal/bytealg.IndexString"], unfollowed := true, recurses := true, named := ["unicode/utf8.first", "unicode/utf8.acceptRanges", "internal/bytealg.MaxLen"], apart := false, laid := [("unicode/utf8.acceptRanges", laid_unicode_utf8_acceptRanges), ("unicode/utf8.first", laid_unicode_utf8_first)], narrowed := true }
def FnExactPeriodOfWordUptoSaid : Prop := fnExactPeriodOfWordUptoRow.holds Tryd.pinned (OpenSpec.upto fnExactPeriodOfWordSpec)

end Rows
end Go.Proofs.YtbppbbkcampglaaDoor
