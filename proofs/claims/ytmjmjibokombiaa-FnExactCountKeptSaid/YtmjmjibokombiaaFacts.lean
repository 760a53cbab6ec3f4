/-
  Closed facts of the program as a whole, each on its own.
-/
import Derived.Test.YtmjmjibokombiaaRows
import Derived.JoinedOf
namespace Go.Proofs.Ytmjmjibokombiaa.facts
theorem and_i {a b : Bool} (ha : a = true) (hb : b = true) : (a && b) = true := by rw [ha, hb]; rfl
theorem p2 : laidOutB Try.prog = true := by kernel_rfl
theorem p3 : mapsRowed Try.prog = true := by kernel_rfl
theorem p7 : (Try.prog.stops == []) = true := by kernel_rfl
theorem p9 : (Try.prog.stopKnobs == []) = true := by kernel_rfl
theorem p23 : (Rows.fnExactCountKeptRow.plainKeys == Try.prog.plainKeys) = true := by kernel_rfl
theorem p25 : Try.prog.stopsHeard = true := by kernel_rfl
theorem p26 : Try.prog.mayEnter = true := by kernel_rfl
theorem p27 : (Rows.fnExactCountKeptRow.lifted == Try.prog.liftsFinal) = true := by kernel_rfl
theorem p28 : (Try.prog.make == some Rows.fnExactCountKeptRow.make) = true := by kernel_rfl
end Go.Proofs.Ytmjmjibokombiaa.facts
