/-
  No contracts beside the shelf's own.
-/
import Derived.Test.YtpdmfbhjneodeaaDoorProg
namespace Go.Proofs
end Go.Proofs
