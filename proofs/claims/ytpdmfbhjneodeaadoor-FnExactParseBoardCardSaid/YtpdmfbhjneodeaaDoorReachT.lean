/-
  The model's search for all trays that are reached.
-/
import Derived.Test.YtpdmfbhjneodeaaDoorReachS
namespace Go.Proofs.YtpdmfbhjneodeaaDoor
open Go.RowKit
/-- The states of a text: none where it is no tray, or reaches too many. -/
def rcS (l : List UInt8) : Option (List (Sta Grid)) := match parse l with
  | none => none
  | some g => reachS tiltG g
end Go.Proofs.YtpdmfbhjneodeaaDoor
