/-
  How many trays a tray reaches: in the program and in the model, and the law.
-/
import Derived.Test.YtpdmfbhjneodeaaDoorReachJ
import Derived.Test.YtpdmfbhjneodeaaDoorReachU
namespace Go.Proofs.YtpdmfbhjneodeaaDoor
open Go.RowKit
theorem fin_ib {a b : Int} {c d : Bool} (h1 : a = b) (h2 : c = d) : Ending.returned (.tuple #[.int .i64 a, .bool c]) = .returned (.tuple #[.int .i64 b, .bool d]) := by rw [h1, h2]
def crN (l : List UInt8) : Int := match rcS l with
  | none => 0
  | some S => S.length
def crOk (l : List UInt8) : Bool := (rcS l).isSome
end Go.Proofs.YtpdmfbhjneodeaaDoor
