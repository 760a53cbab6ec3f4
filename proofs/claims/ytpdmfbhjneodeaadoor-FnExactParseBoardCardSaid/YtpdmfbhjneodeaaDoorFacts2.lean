/-
  Closed facts of the program for its cards, each on its own.
-/
import Derived.Test.YtpdmfbhjneodeaaDoorCards
import Derived.Test.YtpdmfbhjneodeaaDoorRows
namespace Go.Proofs.YtpdmfbhjneodeaaDoor.facts
theorem mainIs : Tryd.prog.mainIs = some (((true, "884dcd72e4dadc9624afeeb08f24afdcc4f10dd3227b6bf0faad168c34c61cf1") : Bool × String).1, ((true, "884dcd72e4dadc9624afeeb08f24afdcc4f10dd3227b6bf0faad168c34c61cf1") : Bool × String).2.toList) := by kernel_rfl
theorem looks0 : true = Tryd.prog.looks [] := by kernel_rfl
theorem standIn3 : Tryd.prog.wantsStandIn 3 = false := by kernel_rfl
theorem standIn9 : Tryd.prog.wantsStandIn 9 = false := by kernel_rfl
theorem standIn28 : Tryd.prog.wantsStandIn 28 = false := by kernel_rfl
end Go.Proofs.YtpdmfbhjneodeaaDoor.facts
