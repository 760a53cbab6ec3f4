/-
  Closed facts of the program for its cards, each on its own.
-/
import Derived.Test.YtbppbbkcampglaaDoorCards
import Derived.Test.YtbppbbkcampglaaDoorRows
namespace Go.Proofs.YtbppbbkcampglaaDoor.facts
theorem mainIs : Tryd.prog.mainIs = some (((true, "467411af30355936a6331e56e6991f9d911b1561fce6f8184f236c95c7ab8897") : Bool × String).1, ((true, "467411af30355936a6331e56e6991f9d911b1561fce6f8184f236c95c7ab8897") : Bool × String).2.toList) := by kernel_rfl
theorem looks0 : false = Tryd.prog.looks [] := by kernel_rfl
theorem standIn3 : Tryd.prog.wantsStandIn 3 = false := by kernel_rfl
theorem standIn9 : Tryd.prog.wantsStandIn 9 = false := by kernel_rfl
theorem standIn84 : Tryd.prog.wantsStandIn 84 = false := by kernel_rfl
end Go.Proofs.YtbppbbkcampglaaDoor.facts
