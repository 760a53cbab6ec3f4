/-
  Closed facts of the program for its cards, each on its own.
-/
import Derived.Test.YtdebiobhmpoiiaaDoorCards
import Derived.Test.YtdebiobhmpoiiaaDoorRows
namespace Go.Proofs.YtdebiobhmpoiiaaDoor.facts
theorem mainIs : Tryd.prog.mainIs = some (((true, "b56c3f4428b78518f08b24f82ecc154ff9a614e8043b649f1f08cc36808fe66f") : Bool × String).1, ((true, "b56c3f4428b78518f08b24f82ecc154ff9a614e8043b649f1f08cc36808fe66f") : Bool × String).2.toList) := by kernel_rfl
theorem looks0 : false = Tryd.prog.looks [] := by kernel_rfl
theorem standIn3 : Tryd.prog.wantsStandIn 3 = false := by kernel_rfl
theorem standIn9 : Tryd.prog.wantsStandIn 9 = false := by kernel_rfl
theorem standIn23 : Tryd.prog.wantsStandIn 23 = false := by kernel_rfl
theorem standIn34 : Tryd.prog.wantsStandIn 34 = false := by kernel_rfl
theorem standIn42 : Tryd.prog.wantsStandIn 42 = false := by kernel_rfl
end Go.Proofs.YtdebiobhmpoiiaaDoor.facts
