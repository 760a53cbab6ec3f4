/-
  Closed facts of the program for its cards, each on its own.
-/
import Derived.Test.YtcjmikafomlbiaaDoorCards
import Derived.Test.YtcjmikafomlbiaaDoorRows
namespace Go.Proofs.YtcjmikafomlbiaaDoor.facts
theorem mainIs : Tryd.prog.mainIs = some (((true, "c17f65914f5008ed0e491ff04d4211064e9d5986ec05a4e308642c1bb1b4660c") : Bool × String).1, ((true, "c17f65914f5008ed0e491ff04d4211064e9d5986ec05a4e308642c1bb1b4660c") : Bool × String).2.toList) := by kernel_rfl
theorem looks0 : false = Tryd.prog.looks [] := by kernel_rfl
theorem standIn3 : Tryd.prog.wantsStandIn 3 = false := by kernel_rfl
theorem standIn9 : Tryd.prog.wantsStandIn 9 = false := by kernel_rfl
theorem standIn45 : Tryd.prog.wantsStandIn 45 = false := by kernel_rfl
end Go.Proofs.YtcjmikafomlbiaaDoor.facts
