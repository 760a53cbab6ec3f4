/-
  The program's search for all trays that are reached.
-/
import Derived.Test.YtpdmfbhjneodeaaDoorReachI
namespace Go.Proofs.YtpdmfbhjneodeaaDoor
open Go.RowKit
end Go.Proofs.YtpdmfbhjneodeaaDoor
