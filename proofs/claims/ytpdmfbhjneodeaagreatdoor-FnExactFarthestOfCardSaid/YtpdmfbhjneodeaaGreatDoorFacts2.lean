/-
  Closed facts of the program for its cards, each on its own.
-/
import Derived.Test.YtpdmfbhjneodeaaGreatDoorCards
import Derived.Test.YtpdmfbhjneodeaaGreatDoorRows
namespace Go.Proofs.YtpdmfbhjneodeaaGreatDoor.facts
theorem mainIs : Tryz.prog.mainIs = some (((true, "4f0753c483c42b0c9644bdff5d950102446efd4f144bf3b7feb1c9c9f74ab981") : Bool × String).1, ((true, "4f0753c483c42b0c9644bdff5d950102446efd4f144bf3b7feb1c9c9f74ab981") : Bool × String).2.toList) := by kernel_rfl
theorem looks0 : false = Tryz.prog.looks [] := by kernel_rfl
theorem standIn3 : Tryz.prog.wantsStandIn 3 = false := by kernel_rfl
theorem standIn9 : Tryz.prog.wantsStandIn 9 = false := by kernel_rfl
theorem standIn32 : Tryz.prog.wantsStandIn 32 = false := by kernel_rfl
end Go.Proofs.YtpdmfbhjneodeaaGreatDoor.facts
