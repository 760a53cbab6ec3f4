/-
  Closed facts of the program as a whole, each on its own.
-/
import Derived.Test.YtpdmfbhjneodeaaGreatDoorRows
import Derived.JoinedOf
namespace Go.Proofs.YtpdmfbhjneodeaaGreatDoor.facts
theorem and_i {a b : Bool} (ha : a = true) (hb : b = true) : (a && b) = true := by rw [ha, hb]; rfl
theorem p2 : laidOutB Tryz.prog = true := by kernel_rfl
theorem p3 : mapsRowed Tryz.prog = true := by kernel_rfl
theorem p7 : (Tryz.prog.stops == []) = true := by kernel_rfl
theorem p9 : (Tryz.prog.stopKnobs == []) = true := by kernel_rfl
theorem p23 : (Rows.fnExactFarthestOfRow.plainKeys == Tryz.prog.plainKeys) = true := by kernel_rfl
theorem p25 : Tryz.prog.stopsHeard = true := by kernel_rfl
theorem p26 : Tryz.prog.mayEnter = true := by kernel_rfl
theorem p27 : (Rows.fnExactFarthestOfRow.lifted == Tryz.prog.liftsFinal) = true := by kernel_rfl
theorem p28 : (Tryz.prog.make == some Rows.fnExactFarthestOfRow.make) = true := by kernel_rfl
end Go.Proofs.YtpdmfbhjneodeaaGreatDoor.facts
