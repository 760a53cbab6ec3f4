/-
  Ways through a tray: the neighbours of a cell, in the program and in the model.
-/
import Derived.Test.YtamdmhclhjkogaaGreatDoorWayP
import Derived.Test.YtamdmhclhjkogaaGreatDoorQueueQ
import Derived.Test.YtamdmhclhjkogaaGreatDoorBLs
import Derived.Test.YtamdmhclhjkogaaGreatDoorOps
namespace Go.Proofs.YtamdmhclhjkogaaGreatDoor
open Go.RowKit
def RetRow (T : TypeId) (L : List Int) (w : World) (e : Ending) (w' : World) : Prop := Gr w w' ∧ ∃ v, e = .returned v ∧ w'.ownsRow w.heap.size T 1 v L.length (intsV L)
end Go.Proofs.YtamdmhclhjkogaaGreatDoor
