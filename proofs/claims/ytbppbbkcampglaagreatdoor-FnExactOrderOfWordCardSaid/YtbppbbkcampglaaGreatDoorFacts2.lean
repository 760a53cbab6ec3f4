/-
  Closed facts of the program for its cards, each on its own.
-/
import Derived.Test.YtbppbbkcampglaaGreatDoorCards
import Derived.Test.YtbppbbkcampglaaGreatDoorRows
namespace Go.Proofs.YtbppbbkcampglaaGreatDoor.facts
theorem mainIs : Tryz.prog.mainIs = some (((true, "4d1ab57206b68c2d8de0002338ea4503514ec8b1d516a185d00ab0bd9884b6d8") : Bool × String).1, ((true, "4d1ab57206b68c2d8de0002338ea4503514ec8b1d516a185d00ab0bd9884b6d8") : Bool × String).2.toList) := by kernel_rfl
theorem looks0 : false = Tryz.prog.looks [] := by kernel_rfl
theorem standIn3 : Tryz.prog.wantsStandIn 3 = false := by kernel_rfl
theorem standIn9 : Tryz.prog.wantsStandIn 9 = false := by kernel_rfl
theorem standIn25 : Tryz.prog.wantsStandIn 25 = false := by kernel_rfl
end Go.Proofs.YtbppbbkcampglaaGreatDoor.facts
