/-
  No cell of these rows narrows 'for every input' (looked for: loops, veiled, ifaces, maps, wideKeys, modest, calm, conditions, laid).
  DERIVED. THE GIVEN ROWS OF THIS SEAT. 11 by the template 'for every input the law returns true; each argument reads behind the call as it read before'; 0 by the template 'total and deterministic' (their statements: YtgibpcmjfnmkdaaTotals.lean).
  GIVEN WITH THE SEED: the statements are not yours to turn. If you find one false, say at which input.
  Laid BY PROGRAM, IN A SANDBOX (cutbox-rows.mjs): the forced cells as the released guide's own fill.sh prints them over the translation 742b2e462a9fbf23… (all of the seat's roots in one cut). By AI agents, Wed Nov 11 2026. No macro, syntax, notation, axiom, sorry.
-/
import Derived.Test.YtgibpcmjfnmkdaaChecked
import GoSem.Claim
import GoSem.ClaimJoined
import GoSem.ClaimMapViews
import Derived.JoinedTies
import Derived.KernelRfl
namespace Go.Proofs.Ytgibpcmjfnmkdaa
/- THE CELL 'sum', in the pinned program and in every row, IS THE sha256 OF THE DUMP (.gsa) THAT YtgibpcmjfnmkdaaProg.lean LOADS. Nothing in Lean hashes anything: it is a label: what it is worth is what the hold of that sum in a sandbox is worth. -/
noncomputable def Try.pinned : Pinned := { name := "ytgibpcmjfnmkdaa", sum := "742b2e462a9fbf23b1fa77c38addcce3069eec776bfe6d75198d40a21256768c", checked := Try.checked }
namespace Rows
def none {H : Type} : Left H := { results := [], args := [] }

/-- 'laws.FnExactIsBoard': WHATEVER THE INPUT: true; the input reads as it did. -/
def fnExactIsBoardSpec : ChangeSpec := { name := "fnExactIsBoard", fn := fun _ => fun
  | [d] => { results := [.lit (.bool true)], args := [d] }
  | _ => none }
def fnExactIsBoardRow : OpenClaim := { program := "ytgibpcmjfnmkdaa", sum := "742b2e462a9fbf23b1fa77c38addcce3069eec776bfe6d75198d40a21256768c", func := "loop.example/g01199/laws.FnExactIsBoard", spec := "fnExactIsBoard", plainKeys := false, apart := false }
def FnExactIsBoardSaid : Prop := fnExactIsBoardRow.holds Try.pinned (OpenSpec.ofChange fnExactIsBoardSpec)

/-- ITS FALSE NEIGHBOUR: 'it returns false'. Refute it at one input. -/
def fnExactIsBoardWrong : ChangeSpec := { name := "fnExactIsBoard", fn := fun _ => fun
  | [d] => { results := [.lit (.bool false)], args := [d] }
  | _ => none }
def FnExactIsBoardWrongFalsely : Prop := fnExactIsBoardRow.holds Try.pinned (OpenSpec.ofChange fnExactIsBoardWrong)

/-- 'laws.FnExactSolvedBoard': WHATEVER THE INPUT: true; the input reads as it did. -/
def fnExactSolvedBoardSpec : ChangeSpec := { name := "fnExactSolvedBoard", fn := fun _ => fun
  | [d1, d2] => { results := [.lit (.bool true)], args := [d1, d2] }
  | _ => none }
def fnExactSolvedBoardRow : OpenClaim := { program := "ytgibpcmjfnmkdaa", sum := "742b2e462a9fbf23b1fa77c38addcce3069eec776bfe6d75198d40a21256768c", func := "loop.example/g01199/laws.FnExactSolvedBoard", spec := "fnExactSolvedBoard", plainKeys := false, apart := false }
def FnExactSolvedBoardSaid : Prop := fnExactSolvedBoardRow.holds Try.pinned (OpenSpec.ofChange fnExactSolvedBoardSpec)

/-- ITS FALSE NEIGHBOUR: 'it returns false'. Refute it at one input. -/
def fnExactSolvedBoardWrong : ChangeSpec := { name := "fnExactSolvedBoard", fn := fun _ => fun
  | [d1, d2] => { results := [.lit (.bool false)], args := [d1, d2] }
  | _ => none }
def FnExactSolvedBoardWrongFalsely : Prop := fnExactSolvedBoardRow.holds Try.pinned (OpenSpec.ofChange fnExactSolvedBoardWrong)

/-- 'laws.FnExactHoleOf': WHATEVER THE INPUT: true; the input reads as it did. -/
def fnExactHoleOfSpec : ChangeSpec := { name := "fnExactHoleOf", fn := fun _ => fun
  | [d] => { results := [.lit (.bool true)], args := [d] }
  | _ => none }
def fnExactHoleOfRow : OpenClaim := { program := "ytgibpcmjfnmkdaa", sum := "742b2e462a9fbf23b1fa77c38addcce3069eec776bfe6d75198d40a21256768c", func := "loop.example/g01199/laws.FnExactHoleOf", spec := "fnExactHoleOf", plainKeys := false, apart := false }
def FnExactHoleOfSaid : Prop := fnExactHoleOfRow.holds Try.pinned (OpenSpec.ofChange fnExactHoleOfSpec)

/-- ITS FALSE NEIGHBOUR: 'it returns false'. Refute it at one input. -/
def fnExactHoleOfWrong : ChangeSpec := { name := "fnExactHoleOf", fn := fun _ => fun
  | [d] => { results := [.lit (.bool false)], args := [d] }
  | _ => none }
def FnExactHoleOfWrongFalsely : Prop := fnExactHoleOfRow.holds Try.pinned (OpenSpec.ofChange fnExactHoleOfWrong)

/-- 'laws.FnExactHoleWays': WHATEVER THE INPUT: true; the input reads as it did. -/
def fnExactHoleWaysSpec : ChangeSpec := { name := "fnExactHoleWays", fn := fun _ => fun
  | [d] => { results := [.lit (.bool true)], args := [d] }
  | _ => none }
def fnExactHoleWaysRow : OpenClaim := { program := "ytgibpcmjfnmkdaa", sum := "742b2e462a9fbf23b1fa77c38addcce3069eec776bfe6d75198d40a21256768c", func := "loop.example/g01199/laws.FnExactHoleWays", spec := "fnExactHoleWays", plainKeys := false, apart := false }
def FnExactHoleWaysSaid : Prop := fnExactHoleWaysRow.holds Try.pinned (OpenSpec.ofChange fnExactHoleWaysSpec)

/-- ITS FALSE NEIGHBOUR: 'it returns false'. Refute it at one input. -/
def fnExactHoleWaysWrong : ChangeSpec := { name := "fnExactHoleWays", fn := fun _ => fun
  | [d] => { results := [.lit (.bool false)], args := [d] }
  | _ => none }
def FnExactHoleWaysWrongFalsely : Prop := fnExactHoleWaysRow.holds Try.pinned (OpenSpec.ofChange fnExactHoleWaysWrong)

/-- 'laws.FnExactParityOf': WHATEVER THE INPUT: true; the input reads as it did. -/
def fnExactParityOfSpec : ChangeSpec := { name := "fnExactParityOf", fn := fun _ => fun
  | [d] => { results := [.lit (.bool true)], args := [d] }
  | _ => none }
def fnExactParityOfRow : OpenClaim := { program := "ytgibpcmjfnmkdaa", sum := "742b2e462a9fbf23b1fa77c38addcce3069eec776bfe6d75198d40a21256768c", func := "loop.example/g01199/laws.FnExactParityOf", spec := "fnExactParityOf", plainKeys := false, apart := false }
def FnExactParityOfSaid : Prop := fnExactParityOfRow.holds Try.pinned (OpenSpec.ofChange fnExactParityOfSpec)

/-- ITS FALSE NEIGHBOUR: 'it returns false'. Refute it at one input. -/
def fnExactParityOfWrong : ChangeSpec := { name := "fnExactParityOf", fn := fun _ => fun
  | [d] => { results := [.lit (.bool false)], args := [d] }
  | _ => none }
def FnExactParityOfWrongFalsely : Prop := fnExactParityOfRow.holds Try.pinned (OpenSpec.ofChange fnExactParityOfWrong)

/-- 'laws.FnExactCanSolve': WHATEVER THE INPUT: true; the input reads as it did. -/
def fnExactCanSolveSpec : ChangeSpec := { name := "fnExactCanSolve", fn := fun _ => fun
  | [d] => { results := [.lit (.bool true)], args := [d] }
  | _ => none }
def fnExactCanSolveRow : OpenClaim := { program := "ytgibpcmjfnmkdaa", sum := "742b2e462a9fbf23b1fa77c38addcce3069eec776bfe6d75198d40a21256768c", func := "loop.example/g01199/laws.FnExactCanSolve", spec := "fnExactCanSolve", plainKeys := false, apart := false }
def FnExactCanSolveSaid : Prop := fnExactCanSolveRow.holds Try.pinned (OpenSpec.ofChange fnExactCanSolveSpec)

/-- ITS FALSE NEIGHBOUR: 'it returns false'. Refute it at one input. -/
def fnExactCanSolveWrong : ChangeSpec := { name := "fnExactCanSolve", fn := fun _ => fun
  | [d] => { results := [.lit (.bool false)], args := [d] }
  | _ => none }
def FnExactCanSolveWrongFalsely : Prop := fnExactCanSolveRow.holds Try.pinned (OpenSpec.ofChange fnExactCanSolveWrong)

/-- 'laws.FnExactSolveBoard': WHATEVER THE INPUT: true; the input reads as it did. -/
def fnExactSolveBoardSpec : ChangeSpec := { name := "fnExactSolveBoard", fn := fun _ => fun
  | [d] => { results := [.lit (.bool true)], args := [d] }
  | _ => none }
def fnExactSolveBoardRow : OpenClaim := { program := "ytgibpcmjfnmkdaa", sum := "742b2e462a9fbf23b1fa77c38addcce3069eec776bfe6d75198d40a21256768c", func := "loop.example/g01199/laws.FnExactSolveBoard", spec := "fnExactSolveBoard", plainKeys := false, apart := false }
def FnExactSolveBoardSaid : Prop := fnExactSolveBoardRow.holds Try.pinned (OpenSpec.ofChange fnExactSolveBoardSpec)

/-- ITS FALSE NEIGHBOUR: 'it returns false'. Refute it at one input. -/
def fnExactSolveBoardWrong : ChangeSpec := { name := "fnExactSolveBoard", fn := fun _ => fun
  | [d] => { results := [.lit (.bool false)], args := [d] }
  | _ => none }
def FnExactSolveBoardWrongFalsely : Prop := fnExactSolveBoardRow.holds Try.pinned (OpenSpec.ofChange fnExactSolveBoardWrong)

/-- 'laws.FnExactCountBoards': WHATEVER THE INPUT: true; the input reads as it did. -/
def fnExactCountBoardsSpec : ChangeSpec := { name := "fnExactCountBoards", fn := fun _ => fun
  | [d1, d2] => { results := [.lit (.bool true)], args := [d1, d2] }
  | _ => none }
def fnExactCountBoardsRow : OpenClaim := { program := "ytgibpcmjfnmkdaa", sum := "742b2e462a9fbf23b1fa77c38addcce3069eec776bfe6d75198d40a21256768c", func := "loop.example/g01199/laws.FnExactCountBoards", spec := "fnExactCountBoards", plainKeys := false, apart := false }
def FnExactCountBoardsSaid : Prop := fnExactCountBoardsRow.holds Try.pinned (OpenSpec.ofChange fnExactCountBoardsSpec)

/-- ITS FALSE NEIGHBOUR: 'it returns false'. Refute it at one input. -/
def fnExactCountBoardsWrong : ChangeSpec := { name := "fnExactCountBoards", fn := fun _ => fun
  | [d1, d2] => { results := [.lit (.bool false)], args := [d1, d2] }
  | _ => none }
def FnExactCountBoardsWrongFalsely : Prop := fnExactCountBoardsRow.holds Try.pinned (OpenSpec.ofChange fnExactCountBoardsWrong)

/-- 'laws.FnExactHardestBoards': WHATEVER THE INPUT: true; the input reads as it did. -/
def fnExactHardestBoardsSpec : ChangeSpec := { name := "fnExactHardestBoards", fn := fun _ => fun
  | [d1, d2] => { results := [.lit (.bool true)], args := [d1, d2] }
  | _ => none }
def fnExactHardestBoardsRow : OpenClaim := { program := "ytgibpcmjfnmkdaa", sum := "742b2e462a9fbf23b1fa77c38addcce3069eec776bfe6d75198d40a21256768c", func := "loop.example/g01199/laws.FnExactHardestBoards", spec := "fnExactHardestBoards", unfollowed := true, recurses := true, plainKeys := false, apart := false }
def FnExactHardestBoardsSaid : Prop := fnExactHardestBoardsRow.holds Try.pinned (OpenSpec.ofChange fnExactHardestBoardsSpec)

/-- ITS FALSE NEIGHBOUR: 'it returns false'. Refute it at one input. -/
def fnExactHardestBoardsWrong : ChangeSpec := { name := "fnExactHardestBoards", fn := fun _ => fun
  | [d1, d2] => { results := [.lit (.bool false)], args := [d1, d2] }
  | _ => none }
def FnExactHardestBoardsWrongFalsely : Prop := fnExactHardestBoardsRow.holds Try.pinned (OpenSpec.ofChange fnExactHardestBoardsWrong)

/-- 'laws.FnExactManhattanOf': WHATEVER THE INPUT: true; the input reads as it did. -/
def fnExactManhattanOfSpec : ChangeSpec := { name := "fnExactManhattanOf", fn := fun _ => fun
  | [d] => { results := [.lit (.bool true)], args := [d] }
  | _ => none }
def fnExactManhattanOfRow : OpenClaim := { program := "ytgibpcmjfnmkdaa", sum := "742b2e462a9fbf23b1fa77c38addcce3069eec776bfe6d75198d40a21256768c", func := "loop.example/g01199/laws.FnExactManhattanOf", spec := "fnExactManhattanOf", plainKeys := false, apart := false }
def FnExactManhattanOfSaid : Prop := fnExactManhattanOfRow.holds Try.pinned (OpenSpec.ofChange fnExactManhattanOfSpec)

/-- ITS FALSE NEIGHBOUR: 'it returns false'. Refute it at one input. -/
def fnExactManhattanOfWrong : ChangeSpec := { name := "fnExactManhattanOf", fn := fun _ => fun
  | [d] => { results := [.lit (.bool false)], args := [d] }
  | _ => none }
def FnExactManhattanOfWrongFalsely : Prop := fnExactManhattanOfRow.holds Try.pinned (OpenSpec.ofChange fnExactManhattanOfWrong)

/-- 'laws.FnExactMirrorBoard': WHATEVER THE INPUT: true; the input reads as it did. -/
def fnExactMirrorBoardSpec : ChangeSpec := { name := "fnExactMirrorBoard", fn := fun _ => fun
  | [d] => { results := [.lit (.bool true)], args := [d] }
  | _ => none }
def fnExactMirrorBoardRow : OpenClaim := { program := "ytgibpcmjfnmkdaa", sum := "742b2e462a9fbf23b1fa77c38addcce3069eec776bfe6d75198d40a21256768c", func := "loop.example/g01199/laws.FnExactMirrorBoard", spec := "fnExactMirrorBoard", plainKeys := false, apart := false }
def FnExactMirrorBoardSaid : Prop := fnExactMirrorBoardRow.holds Try.pinned (OpenSpec.ofChange fnExactMirrorBoardSpec)

/-- ITS FALSE NEIGHBOUR: 'it returns false'. Refute it at one input. -/
def fnExactMirrorBoardWrong : ChangeSpec := { name := "fnExactMirrorBoard", fn := fun _ => fun
  | [d] => { results := [.lit (.bool false)], args := [d] }
  | _ => none }
def FnExactMirrorBoardWrongFalsely : Prop := fnExactMirrorBoardRow.holds Try.pinned (OpenSpec.ofChange fnExactMirrorBoardWrong)

/- THE SECOND FORM. 'bulk': how many values and letters a reading holds, each counted each time it is reached (what is shared counts as often as it is met; a slice's spare places count too). A statement '..UptoSaid' is the law's where the arguments, and the package variables that the reading takes, are together of bulk at most 1048576: NARROWER than '..Said'. Prove '..Said' where nothing that the law and all that it calls make is longer than what came in: it says more and counts as full. Else prove '..UptoSaid'. A law counts once. -/
mutual
def uptoBulk {H : Type} : DataW H → Nat
  | .lit (.string bytes) => bytes.length + 1
  | .lit _ => 1
  | .nil => 1
  | .ptr d => uptoBulk d + 1
  | .slice elems spare => uptoBulkAll elems + uptoBulkAll spare + 1
  | .agg parts => uptoBulkAll parts + 1
  | .iface _ d => uptoBulk d + 1
  | .map entries => uptoBulkEntries entries + 1
  | .held _ => 1
def uptoBulkAll {H : Type} : List (DataW H) → Nat
  | [] => 0
  | d :: r => uptoBulk d + uptoBulkAll r
def uptoBulkEntries {H : Type} : List (Lit × DataW H) → Nat
  | [] => 0
  | x :: r => uptoBulkEntry x + uptoBulkEntries r
def uptoBulkEntry {H : Type} : Lit × DataW H → Nat
  | (.string bytes, d) => bytes.length + uptoBulk d + 1
  | (_, d) => uptoBulk d + 1
 end
def uptoSmall : (H : Type) → List (DataW H) → Bool := fun _ ds => decide (uptoBulkAll ds ≤ 1048576)
def OpenSpec.upto (s : _root_.Go.ChangeSpec) : _root_.Go.OpenSpec := { _root_.Go.OpenSpec.ofChange s with cond := some uptoSmall }

/-- 'laws.FnExactIsBoard', WHERE WHAT IT READS IS OF BULK AT MOST 1048576: true; the input reads as it did. -/
def fnExactIsBoardUptoRow : OpenClaim := { program := "ytgibpcmjfnmkdaa", sum := "742b2e462a9fbf23b1fa77c38addcce3069eec776bfe6d75198d40a21256768c", func := "loop.example/g01199/laws.FnExactIsBoard", spec := "fnExactIsBoard", plainKeys := false, apart := false, narrowed := true }
def FnExactIsBoardUptoSaid : Prop := fnExactIsBoardUptoRow.holds Try.pinned (OpenSpec.upto fnExactIsBoardSpec)

/-- 'laws.FnExactSolvedBoard', WHERE WHAT IT READS IS OF BULK AT MOST 1048576: true; the input reads as it did. -/
def fnExactSolvedBoardUptoRow : OpenClaim := { program := "ytgibpcmjfnmkdaa", sum := "742b2e462a9fbf23b1fa77c38addcce3069eec776bfe6d75198d40a21256768c", func := "loop.example/g01199/laws.FnExactSolvedBoard", spec := "fnExactSolvedBoard", plainKeys := false, apart := false, narrowed := true }
def FnExactSolvedBoardUptoSaid : Prop := fnExactSolvedBoardUptoRow.holds Try.pinned (OpenSpec.upto fnExactSolvedBoardSpec)

/-- 'laws.FnExactHoleOf', WHERE WHAT IT READS IS OF BULK AT MOST 1048576: true; the input reads as it did. -/
def fnExactHoleOfUptoRow : OpenClaim := { program := "ytgibpcmjfnmkdaa", sum := "742b2e462a9fbf23b1fa77c38addcce3069eec776bfe6d75198d40a21256768c", func := "loop.example/g01199/laws.FnExactHoleOf", spec := "fnExactHoleOf", plainKeys := false, apart := false, narrowed := true }
def FnExactHoleOfUptoSaid : Prop := fnExactHoleOfUptoRow.holds Try.pinned (OpenSpec.upto fnExactHoleOfSpec)

/-- 'laws.FnExactHoleWays', WHERE WHAT IT READS IS OF BULK AT MOST 1048576: true; the input reads as it did. -/
def fnExactHoleWaysUptoRow : OpenClaim := { program := "ytgibpcmjfnmkdaa", sum := "742b2e462a9fbf23b1fa77c38addcce3069eec776bfe6d75198d40a21256768c", func := "loop.example/g01199/laws.FnExactHoleWays", spec := "fnExactHoleWays", plainKeys := false, apart := false, narrowed := true }
def FnExactHoleWaysUptoSaid : Prop := fnExactHoleWaysUptoRow.holds Try.pinned (OpenSpec.upto fnExactHoleWaysSpec)

/-- 'laws.FnExactParityOf', WHERE WHAT IT READS IS OF BULK AT MOST 1048576: true; the input reads as it did. -/
def fnExactParityOfUptoRow : OpenClaim := { program := "ytgibpcmjfnmkdaa", sum := "742b2e462a9fbf23b1fa77c38addcce3069eec776bfe6d75198d40a21256768c", func := "loop.example/g01199/laws.FnExactParityOf", spec := "fnExactParityOf", plainKeys := false, apart := false, narrowed := true }
def FnExactParityOfUptoSaid : Prop := fnExactParityOfUptoRow.holds Try.pinned (OpenSpec.upto fnExactParityOfSpec)

/-- 'laws.FnExactCanSolve', WHERE WHAT IT READS IS OF BULK AT MOST 1048576: true; the input reads as it did. -/
def fnExactCanSolveUptoRow : OpenClaim := { program := "ytgibpcmjfnmkdaa", sum := "742b2e462a9fbf23b1fa77c38addcce3069eec776bfe6d75198d40a21256768c", func := "loop.example/g01199/laws.FnExactCanSolve", spec := "fnExactCanSolve", plainKeys := false, apart := false, narrowed := true }
def FnExactCanSolveUptoSaid : Prop := fnExactCanSolveUptoRow.holds Try.pinned (OpenSpec.upto fnExactCanSolveSpec)

/-- 'laws.FnExactSolveBoard', WHERE WHAT IT READS IS OF BULK AT MOST 1048576: true; the input reads as it did. -/
def fnExactSolveBoardUptoRow : OpenClaim := { program := "ytgibpcmjfnmkdaa", sum := "742b2e462a9fbf23b1fa77c38addcce3069eec776bfe6d75198d40a21256768c", func := "loop.example/g01199/laws.FnExactSolveBoard", spec := "fnExactSolveBoard", plainKeys := false, apart := false, narrowed := true }
def FnExactSolveBoardUptoSaid : Prop := fnExactSolveBoardUptoRow.holds Try.pinned (OpenSpec.upto fnExactSolveBoardSpec)

/-- 'laws.FnExactCountBoards', WHERE WHAT IT READS IS OF BULK AT MOST 1048576: true; the input reads as it did. -/
def fnExactCountBoardsUptoRow : OpenClaim := { program := "ytgibpcmjfnmkdaa", sum := "742b2e462a9fbf23b1fa77c38addcce3069eec776bfe6d75198d40a21256768c", func := "loop.example/g01199/laws.FnExactCountBoards", spec := "fnExactCountBoards", plainKeys := false, apart := false, narrowed := true }
def FnExactCountBoardsUptoSaid : Prop := fnExactCountBoardsUptoRow.holds Try.pinned (OpenSpec.upto fnExactCountBoardsSpec)

/-- 'laws.FnExactHardestBoards', WHERE WHAT IT READS IS OF BULK AT MOST 1048576: true; the input reads as it did. -/
def fnExactHardestBoardsUptoRow : OpenClaim := { program := "ytgibpcmjfnmkdaa", sum := "742b2e462a9fbf23b1fa77c38addcce3069eec776bfe6d75198d40a21256768c", func := "loop.example/g01199/laws.FnExactHardestBoards", spec := "fnExactHardestBoards", unfollowed := true, recurses := true, plainKeys := false, apart := false, narrowed := true }
def FnExactHardestBoardsUptoSaid : Prop := fnExactHardestBoardsUptoRow.holds Try.pinned (OpenSpec.upto fnExactHardestBoardsSpec)

/-- 'laws.FnExactManhattanOf', WHERE WHAT IT READS IS OF BULK AT MOST 1048576: true; the input reads as it did. -/
def fnExactManhattanOfUptoRow : OpenClaim := { program := "ytgibpcmjfnmkdaa", sum := "742b2e462a9fbf23b1fa77c38addcce3069eec776bfe6d75198d40a21256768c", func := "loop.example/g01199/laws.FnExactManhattanOf", spec := "fnExactManhattanOf", plainKeys := false, apart := false, narrowed := true }
def FnExactManhattanOfUptoSaid : Prop := fnExactManhattanOfUptoRow.holds Try.pinned (OpenSpec.upto fnExactManhattanOfSpec)

/-- 'laws.FnExactMirrorBoard', WHERE WHAT IT READS IS OF BULK AT MOST 1048576: true; the input reads as it did. -/
def fnExactMirrorBoardUptoRow : OpenClaim := { program := "ytgibpcmjfnmkdaa", sum := "742b2e462a9fbf23b1fa77c38addcce3069eec776bfe6d75198d40a21256768c", func := "loop.example/g01199/laws.FnExactMirrorBoard", spec := "fnExactMirrorBoard", plainKeys := false, apart := false, narrowed := true }
def FnExactMirrorBoardUptoSaid : Prop := fnExactMirrorBoardUptoRow.holds Try.pinned (OpenSpec.upto fnExactMirrorBoardSpec)

end Rows
end Go.Proofs.Ytgibpcmjfnmkdaa
