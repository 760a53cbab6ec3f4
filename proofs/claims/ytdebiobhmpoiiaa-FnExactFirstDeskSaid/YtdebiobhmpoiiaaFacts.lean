/-
  Closed facts of the program as a whole, each on its own.
-/
import Derived.Test.YtdebiobhmpoiiaaRows
import Derived.JoinedOf
namespace Go.Proofs.Ytdebiobhmpoiiaa.facts
theorem and_i {a b : Bool} (ha : a = true) (hb : b = true) : (a && b) = true := by rw [ha, hb]; rfl
theorem p2 : laidOutB Try.prog = true := by kernel_rfl
theorem p3 : mapsRowed Try.prog = true := by kernel_rfl
theorem p7 : (Try.prog.stops == []) = true := by kernel_rfl
theorem p9 : (Try.prog.stopKnobs == []) = true := by kernel_rfl
theorem p23 : (Rows.fnExactFirstDeskRow.plainKeys == Try.prog.plainKeys) = true := by kernel_rfl
theorem p25 : Try.prog.stopsHeard = true := by kernel_rfl
theorem p26 : Try.prog.mayEnter = true := by kernel_rfl
theorem p27 : (Rows.fnExactFirstDeskRow.lifted == Try.prog.liftsFinal) = true := by kernel_rfl
theorem p28 : (Try.prog.make == some Rows.fnExactFirstDeskRow.make) = true := by kernel_rfl
end Go.Proofs.Ytdebiobhmpoiiaa.facts
