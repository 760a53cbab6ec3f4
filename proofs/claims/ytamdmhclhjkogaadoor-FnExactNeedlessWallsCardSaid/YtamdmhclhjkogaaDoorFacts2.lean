/-
  Closed facts of the program for its cards, each on its own.
-/
import Derived.Test.YtamdmhclhjkogaaDoorCards
import Derived.Test.YtamdmhclhjkogaaDoorRows
namespace Go.Proofs.YtamdmhclhjkogaaDoor.facts
theorem mainIs : Tryd.prog.mainIs = some (((true, "f227a04f1d4bfd025385ec3eff1237758ded348d6d0e65fdd1d67fcfd154d5cf") : Bool × String).1, ((true, "f227a04f1d4bfd025385ec3eff1237758ded348d6d0e65fdd1d67fcfd154d5cf") : Bool × String).2.toList) := by kernel_rfl
theorem looks0 : true = Tryd.prog.looks [] := by kernel_rfl
theorem standIn3 : Tryd.prog.wantsStandIn 3 = false := by kernel_rfl
theorem standIn9 : Tryd.prog.wantsStandIn 9 = false := by kernel_rfl
theorem standIn23 : Tryd.prog.wantsStandIn 23 = false := by kernel_rfl
theorem standIn41 : Tryd.prog.wantsStandIn 41 = false := by kernel_rfl
end Go.Proofs.YtamdmhclhjkogaaDoor.facts
