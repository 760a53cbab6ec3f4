/-
  A grid as a key of a map: what it reads as, and that it may be one.
-/
import Derived.Test.YtpdmfbhjneodeaaDoorBTxt
import Derived.Maps.Keyed
import Derived.DeepKeys4
namespace Go.Proofs.YtpdmfbhjneodeaaDoor
open Go.RowKit
open Go.Maps (Keyed)
end Go.Proofs.YtpdmfbhjneodeaaDoor
