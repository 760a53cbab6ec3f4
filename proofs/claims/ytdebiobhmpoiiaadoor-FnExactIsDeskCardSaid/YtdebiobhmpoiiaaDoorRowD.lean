/-
  Arguments that are desks, opened.
-/
import Derived.Test.YtdebiobhmpoiiaaDoorRowKit
import Derived.Test.YtdebiobhmpoiiaaDoorDeskK
import Derived.Carry
import Derived.Lib.SmallJoins
import Derived.ChangeSlices
namespace Go.Proofs.YtdebiobhmpoiiaaDoor
open Go.RowKit
set_option maxRecDepth 100000 in
theorem Tryd.open_desk {H : Type} {enc : TypeId × Value → H} {W : World} {base : Nat} {v : Value} {d : DataW H} {ps : List MemPlace}
    (hv : Value.okWide Tryd.prog W .any base 23 v) (h : DataW.Trod enc Tryd.prog W 0 (fun _ => true) true 23 v d ps) :
    ∃ (s n : ByteArray), v = .agg #[.string s, .string n] ∧ s.size ≤ maxLen ∧ n.size ≤ maxLen := by
  obtain ⟨v0, v1, y0, y1, m, rfl, rfl, rfl, hy0, hy1⟩ := Go.Joins.open_agg2 Tryd.underlying23 (by kernel_rfl) (by kernel_rfl) hv h
  obtain ⟨s, h0, -, hs⟩ := DataW.trod_string Tryd.underlying9 hy0
  obtain rfl := List.head_eq_of_cons_eq h0
  obtain ⟨n, h1, -, hn⟩ := DataW.trod_string Tryd.underlying9 hy1
  obtain rfl := List.head_eq_of_cons_eq h1
  exact ⟨s, n, rfl, hs, hn⟩
end Go.Proofs.YtdebiobhmpoiiaaDoor
