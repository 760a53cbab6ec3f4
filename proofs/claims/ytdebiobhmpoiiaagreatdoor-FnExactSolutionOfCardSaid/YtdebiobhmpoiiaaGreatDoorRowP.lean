/-
  Arguments that are puzzles, opened.
-/
import Derived.Test.YtdebiobhmpoiiaaGreatDoorRowKit
import Derived.Test.YtdebiobhmpoiiaaGreatDoorPuzK
import Derived.Carry
import Derived.Lib.SmallJoins
import Derived.ChangeSlices
namespace Go.Proofs.YtdebiobhmpoiiaaGreatDoor
open Go.RowKit
set_option maxRecDepth 100000 in
theorem Tryz.open_puzzle {H : Type} {enc : TypeId × Value → H} {W : World} {base : Nat} {v : Value} {d : DataW H} {ps : List MemPlace}
    (hv : Value.okWide Tryz.prog W .any base 23 v) (h : DataW.Trod enc Tryz.prog W 0 (fun _ => true) true 23 v d ps) :
    ∃ (s n : ByteArray) (z : Int), v = .agg #[.string s, .string n, .int .i64 z] ∧ s.size ≤ maxLen ∧ n.size ≤ maxLen := by
  obtain ⟨v0, v1, v2, y0, y1, y2, m, rfl, rfl, rfl, hy0, hy1, hy2⟩ := Go.Joins.open_agg3 Tryz.underlying23 (by kernel_rfl) (by kernel_rfl) hv h
  obtain ⟨s, h0, -, hs⟩ := DataW.trod_string Tryz.underlying9 hy0
  obtain rfl := List.head_eq_of_cons_eq h0
  obtain ⟨n, h1, -, hn⟩ := DataW.trod_string Tryz.underlying9 hy1
  obtain rfl := List.head_eq_of_cons_eq h1
  obtain ⟨z, h2, -, -⟩ := DataW.trod_int Tryz.underlying3 hy2
  obtain rfl := List.head_eq_of_cons_eq h2
  exact ⟨s, n, z, rfl, hs, hn⟩
end Go.Proofs.YtdebiobhmpoiiaaGreatDoor
