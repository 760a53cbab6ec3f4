/-
  Boards: the laws on whether it is one, and on the hole.
-/
import Derived.Test.YtgibpcmjfnmkdaaDoorBBb
import Derived.Test.YtgibpcmjfnmkdaaDoorBKit
import Derived.Test.YtgibpcmjfnmkdaaDoorPlace
namespace Go.Proofs.YtgibpcmjfnmkdaaDoor
open Go.RowKit
theorem rdB_cases (z : Int) (L : List Int) : (bdOk z L = false ∧ rdV z L = lv 0 0 []) ∨ ∃ W H : Nat, z = W ∧ bdOk z L = true ∧ rdV z L = lv W H L ∧ L.length = nn W H ∧ 1 ≤ W ∧ W ≤ 3 ∧ 1 ≤ H ∧ H ≤ 3 ∧ hasAll L = true := by
  by_cases h : bdOk z L = true
  · obtain ⟨⟨W, H, rfl, h2, h3, h4, h5, h6⟩, h7⟩ := bdOk_iff.1 h
    exact .inr ⟨W, H, rfl, h, rdV_good h2 h3 h, h2, h3, h4, h5, h6, h7⟩
  · have h' : bdOk z L = false := by simpa using h
    exact .inl ⟨h', rdV_bad h'⟩
end Go.Proofs.YtgibpcmjfnmkdaaDoor
