/-
  The model's search for all trays that are reached: the walk.
-/
import Derived.Test.YtpdmfbhjneodeaaDoorReachT
namespace Go.Proofs.YtpdmfbhjneodeaaDoor
open Go.RowKit
end Go.Proofs.YtpdmfbhjneodeaaDoor
