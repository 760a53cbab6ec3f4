/-
  What the model's functions that turn and mirror trays return.
-/
import Derived.Test.YtedgocedomlhfaaSpec1g
import Derived.Test.YtedgocedomlhfaaDraws2
import Derived.Test.YtedgocedomlhfaaMir
import Derived.Test.YtedgocedomlhfaaImpl1i
namespace Go.Proofs.Ytedgocedomlhfaa
open Go.RowKit
theorem genC_succ (n : Nat) (f : Nat → UInt8) : genC (n + 1) f = genC n f ++ [f n] := by
  unfold genC
  rw [List.range_succ, List.map_append]
  rfl
theorem cellsV_append (c d : List UInt8) : cellsV c ++ cellsV d = cellsV (c ++ d) := by
  unfold cellsV; rw [List.map_append]
/-- The model's turned cells. -/
def fTu (W H : Nat) (c : List UInt8) (i : Nat) : UInt8 := at0 c ((H - 1 - i % H) * W + i / H)
def fMi (W : Nat) (c : List UInt8) (i : Nat) : UInt8 := at0 c (srcM W i)
theorem fTu_at (W H : Nat) (c : List UInt8) (x j : Nat) (hj : j < H) : fTu W H c (nn x H + j) = at0 c ((H - 1 - j) * W + x) := by
  unfold fTu nn
  rw [pair_mod hj, pair_div hj]
theorem fMi_at (W : Nat) (c : List UInt8) (y j : Nat) (hj : j < W) : fMi W c (nn y W + j) = at0 c (y * W + (W - 1 - j)) := by
  unfold fMi srcM nn
  rw [pair_mod hj, pair_div hj]
end Go.Proofs.Ytedgocedomlhfaa
