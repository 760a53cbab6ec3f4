/-
  Arguments that are lists of numbers, opened.
-/
import Derived.Test.YtdebiobhmpoiiaaDoorRowKit
import Derived.Test.YtdebiobhmpoiiaaDoorBLa
import Derived.Test.YtdebiobhmpoiiaaDoorBLs
import Derived.ChangeSlices
namespace Go.Proofs.YtdebiobhmpoiiaaDoor
open Go.RowKit
theorem intsV_getI (L : List Int) (j : Nat) (u : Value) (h : (intsV L)[j]? = some u) : j < L.length ∧ u = .int .i64 (gi L j) := by
  unfold intsV at h
  rw [List.getElem?_map] at h
  rcases hx : L[j]? with _ | x
  · rw [hx] at h; cases h
  · rw [hx] at h
    have hj : j < L.length := (List.getElem?_eq_some_iff.1 hx).1
    refine ⟨hj, ?_⟩
    unfold gi
    rw [List.getD_eq_getElem?_getD, hx]
    exact (Option.some.inj h).symm
set_option maxRecDepth 100000 in
theorem Tryd.open_intl {H : Type} {enc : TypeId × Value → H} {W : World} {base : Nat} {v : Value} {d : DataW H} {ps : List MemPlace}
    (hv : Value.okWide Tryd.prog W .any base 34 v) (h : DataW.Trod enc Tryd.prog W 0 (fun _ => true) true 34 v d ps) :
    ∃ (p : Option Addr) (c : Nat) (L : List Int), v = .slice p L.length c ∧ Rd W p L.length (intsV L) ∧ L.length ≤ 9223372036854775807 ∧ ∀ k, k < L.length → (Lit.int .i64 (gi L k)).wf = true := by
  obtain ⟨p, n, c, rfl⟩ := Go.WideShapes.okWide_slice Tryd.underlying34 hv
  obtain ⟨fuel, hf⟩ := h
  rcases Go.ChangeShapes.open_ints Tryd.underlying34 Tryd.underlying3 (by kernel_rfl) hf with ⟨hcs, -⟩ | ⟨a, len, cap, zs, hcs, -, hle, hcap, hz, -, hcell, hwf⟩
  · simp [Value.cells] at hcs
    obtain ⟨rfl, rfl, rfl⟩ := hcs
    exact ⟨none, 0, [], rfl, ⟨rfl, fun h => absurd h (Nat.lt_irrefl _)⟩, Nat.zero_le _, fun k hk => absurd hk (Nat.not_lt_zero _)⟩
  · simp [Value.cells] at hcs
    obtain ⟨rfl, rfl, rfl⟩ := hcs
    unfold maxLen at hcap
    have hzl : n ≤ zs.length := by rw [hz]; simpa using hle
    have hl : (zs.take n).length = n := by rw [List.length_take]; omega
    refine ⟨some a, c, zs.take n, by rw [hl], ⟨by rw [hl]; simp [intsV, hzl], fun _ => ⟨a, rfl, fun j u hu => ?_⟩⟩, by omega, fun k hk => ?_⟩
    rotate_left
    · refine hwf _ ?_
      unfold gi
      rw [List.getD_eq_getElem?_getD, List.getElem?_eq_getElem hk]
      exact List.mem_of_mem_take (List.getElem_mem hk)
    obtain ⟨hj, rfl⟩ := intsV_getI _ j u hu
    rw [hl] at hj
    rw [hcell j (by omega)]
    unfold gi
    simp [List.getD, hj]
end Go.Proofs.YtdebiobhmpoiiaaDoor
