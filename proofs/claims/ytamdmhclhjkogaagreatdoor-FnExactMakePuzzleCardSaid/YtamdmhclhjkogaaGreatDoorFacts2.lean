/-
  Closed facts of the program for its cards, each on its own.
-/
import Derived.Test.YtamdmhclhjkogaaGreatDoorCards
import Derived.Test.YtamdmhclhjkogaaGreatDoorRows
namespace Go.Proofs.YtamdmhclhjkogaaGreatDoor.facts
theorem mainIs : Tryz.prog.mainIs = some (((true, "875c4d9231822c79a010036853904aa80128d4c6e06c0dfd1781a85028ef6836") : Bool × String).1, ((true, "875c4d9231822c79a010036853904aa80128d4c6e06c0dfd1781a85028ef6836") : Bool × String).2.toList) := by kernel_rfl
theorem looks0 : false = Tryz.prog.looks [] := by kernel_rfl
theorem standIn3 : Tryz.prog.wantsStandIn 3 = false := by kernel_rfl
theorem standIn9 : Tryz.prog.wantsStandIn 9 = false := by kernel_rfl
theorem standIn28 : Tryz.prog.wantsStandIn 28 = false := by kernel_rfl
theorem standIn52 : Tryz.prog.wantsStandIn 52 = false := by kernel_rfl
end Go.Proofs.YtamdmhclhjkogaaGreatDoor.facts
