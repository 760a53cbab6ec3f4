/-
  Closed facts of the program for its cards, each on its own.
-/
import Derived.Test.YtcjmikafomlbiaaGreatDoorCards
import Derived.Test.YtcjmikafomlbiaaGreatDoorRows
namespace Go.Proofs.YtcjmikafomlbiaaGreatDoor.facts
theorem mainIs : Tryz.prog.mainIs = some (((true, "a8c3464f054e2314b816f28fd79ec567d4cb3ef43a39423e7d2cb2f6c398aa7c") : Bool × String).1, ((true, "a8c3464f054e2314b816f28fd79ec567d4cb3ef43a39423e7d2cb2f6c398aa7c") : Bool × String).2.toList) := by kernel_rfl
theorem looks0 : false = Tryz.prog.looks [] := by kernel_rfl
theorem standIn3 : Tryz.prog.wantsStandIn 3 = false := by kernel_rfl
theorem standIn9 : Tryz.prog.wantsStandIn 9 = false := by kernel_rfl
theorem standIn22 : Tryz.prog.wantsStandIn 22 = false := by kernel_rfl
end Go.Proofs.YtcjmikafomlbiaaGreatDoor.facts
