/-
  What the functions on a tray's text return, in the program and in the model: whether it is one, its sizes, and its cells.
-/
import Derived.Test.YtedgocedomlhfaaImpl1d
import Derived.Test.YtedgocedomlhfaaSpec1b
namespace Go.Proofs.Ytedgocedomlhfaa
open Go.RowKit
theorem rd_parse_none {l : List UInt8} (h : parse l = none) : rdG l = ⟨0, 0, []⟩ ∧ rdOk l = false := by unfold rdG rdOk; rw [h]; exact ⟨rfl, rfl⟩
theorem rd_parse_some {l : List UInt8} {g : Grid} (h : parse l = some g) : rdG l = g ∧ rdOk l = true := by unfold rdG rdOk; rw [h]; exact ⟨rfl, rfl⟩
end Go.Proofs.Ytedgocedomlhfaa
