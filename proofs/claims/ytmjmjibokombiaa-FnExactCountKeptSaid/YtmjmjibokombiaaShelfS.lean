/-
  No contracts beside the shelf's own.
-/
import Derived.Test.YtmjmjibokombiaaProg
namespace Go.Proofs
end Go.Proofs
