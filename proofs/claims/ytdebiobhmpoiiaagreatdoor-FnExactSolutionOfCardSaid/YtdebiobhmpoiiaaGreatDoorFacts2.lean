/-
  Closed facts of the program for its cards, each on its own.
-/
import Derived.Test.YtdebiobhmpoiiaaGreatDoorCards
import Derived.Test.YtdebiobhmpoiiaaGreatDoorRows
namespace Go.Proofs.YtdebiobhmpoiiaaGreatDoor.facts
theorem mainIs : Tryz.prog.mainIs = some (((true, "c373acf5a2173a29d62fb952b2344a27912adbd70e1d49415766aa2dc084bf10") : Bool × String).1, ((true, "c373acf5a2173a29d62fb952b2344a27912adbd70e1d49415766aa2dc084bf10") : Bool × String).2.toList) := by kernel_rfl
theorem looks0 : false = Tryz.prog.looks [] := by kernel_rfl
theorem standIn3 : Tryz.prog.wantsStandIn 3 = false := by kernel_rfl
theorem standIn9 : Tryz.prog.wantsStandIn 9 = false := by kernel_rfl
theorem standIn23 : Tryz.prog.wantsStandIn 23 = false := by kernel_rfl
theorem standIn35 : Tryz.prog.wantsStandIn 35 = false := by kernel_rfl
end Go.Proofs.YtdebiobhmpoiiaaGreatDoor.facts
