/-
  Arguments that are boards, opened.
-/
import Derived.Test.YtdebiobhmpoiiaaDoorRowKit
import Derived.Test.YtdebiobhmpoiiaaDoorBBb
import Derived.Carry
import Derived.Lib.SmallJoins
import Derived.ChangeSlices
namespace Go.Proofs.YtdebiobhmpoiiaaDoor
open Go.RowKit
theorem intsV_getB (L : List Int) (j : Nat) (u : Value) (h : (intsV L)[j]? = some u) : j < L.length ∧ u = .int .i64 (gi L j) := by
  unfold intsV at h
  rw [List.getElem?_map] at h
  by_cases hj : j < L.length
  · rw [List.getElem?_eq_getElem hj] at h
    exact ⟨hj, by unfold gi; simp only [List.getD, List.getElem?_eq_getElem hj]; exact (Option.some.inj h).symm⟩
  · rw [List.getElem?_eq_none (by omega)] at h; cases h
theorem Tryd.laidOut : laidOutB Tryd.prog = true := by kernel_rfl
set_option maxRecDepth 100000 in
theorem Tryd.open_board {H : Type} {enc : TypeId × Value → H} {W : World} {base : Nat} {v : Value} {d : DataW H} {ps : List MemPlace}
    (hv : Value.okWide Tryd.prog W .any base 42 v) (h : DataW.Trod enc Tryd.prog W 0 (fun _ => true) true 42 v d ps) :
    ∃ z sl L, v = .agg (bv z sl) ∧ Sl W sl L ∧ L.length ≤ 9223372036854775807 := by
  obtain ⟨v0, v1, y0, y1, n, rfl, rfl, rfl, hy0, hy1⟩ := Go.Joins.open_agg2 Tryd.underlying42 (by kernel_rfl) (by kernel_rfl) hv h
  obtain ⟨z, hc, -, -⟩ := DataW.trod_int Tryd.underlying3 hy0
  obtain rfl := List.head_eq_of_cons_eq hc
  rcases Go.ChangeShapes.open_ints Tryd.underlying34 Tryd.underlying3 (by kernel_rfl) hy1 with ⟨hcs, -⟩ | ⟨a, len, cap, zs, hcs, -, hle, hcap, hz, -, hcell, -⟩
  · obtain rfl := List.head_eq_of_cons_eq hcs
    exact ⟨z, _, [], rfl, ⟨none, 0, rfl, rfl, fun h => absurd h (Nat.lt_irrefl _)⟩, Nat.zero_le _⟩
  · obtain rfl := List.head_eq_of_cons_eq hcs
    unfold maxLen at hcap
    have hzl : len ≤ zs.length := by rw [hz]; simpa using hle
    have hl : (zs.take len).length = len := by rw [List.length_take]; omega
    refine ⟨z, _, zs.take len, rfl, ⟨some a, cap, by rw [hl], by rw [hl]; simp [intsV, hzl], fun _ => ⟨a, rfl, fun j u hu => ?_⟩⟩, by omega⟩
    obtain ⟨hj, rfl⟩ := intsV_getB _ j u hu
    rw [hl] at hj
    rw [hcell j (by omega)]
    unfold gi
    simp [List.getD, hj]
end Go.Proofs.YtdebiobhmpoiiaaDoor
