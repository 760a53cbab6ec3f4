/-
  Closed facts of the program as a whole, each on its own.
-/
import Derived.Test.YtpdmfbhjneodeaaDoorRows
import Derived.JoinedOf
namespace Go.Proofs.YtpdmfbhjneodeaaDoor.facts
theorem and_i {a b : Bool} (ha : a = true) (hb : b = true) : (a && b) = true := by rw [ha, hb]; rfl
theorem p2 : laidOutB Tryd.prog = true := by kernel_rfl
theorem p3 : mapsRowed Tryd.prog = true := by kernel_rfl
theorem p7 : (Tryd.prog.stops == []) = true := by kernel_rfl
theorem p9 : (Tryd.prog.stopKnobs == []) = true := by kernel_rfl
theorem p23 : (Rows.fnExactParsePuzzleRow.plainKeys == Tryd.prog.plainKeys) = true := by kernel_rfl
theorem p25 : Tryd.prog.stopsHeard = true := by kernel_rfl
theorem p26 : Tryd.prog.mayEnter = true := by kernel_rfl
theorem p27 : (Rows.fnExactParsePuzzleRow.lifted == Tryd.prog.liftsFinal) = true := by kernel_rfl
theorem p28 : (Tryd.prog.make == some Rows.fnExactParsePuzzleRow.make) = true := by kernel_rfl
end Go.Proofs.YtpdmfbhjneodeaaDoor.facts
