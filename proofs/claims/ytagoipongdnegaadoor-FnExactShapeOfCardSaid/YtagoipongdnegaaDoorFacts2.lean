/-
  Closed facts of the program for its cards, each on its own.
-/
import Derived.Test.YtagoipongdnegaaDoorCards
import Derived.Test.YtagoipongdnegaaDoorRows
namespace Go.Proofs.YtagoipongdnegaaDoor.facts
theorem mainIs : Tryd.prog.mainIs = some (((true, "a55e744f43de30cc082874eace490b81d7699e3cb8c176d0318b6834da201f59") : Bool × String).1, ((true, "a55e744f43de30cc082874eace490b81d7699e3cb8c176d0318b6834da201f59") : Bool × String).2.toList) := by kernel_rfl
theorem looks0 : false = Tryd.prog.looks [] := by kernel_rfl
theorem standIn3 : Tryd.prog.wantsStandIn 3 = false := by kernel_rfl
theorem standIn9 : Tryd.prog.wantsStandIn 9 = false := by kernel_rfl
end Go.Proofs.YtagoipongdnegaaDoor.facts
