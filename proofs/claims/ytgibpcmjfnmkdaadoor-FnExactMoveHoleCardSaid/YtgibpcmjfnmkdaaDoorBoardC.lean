/-
  Numbers of boards, and the solved board: in the program and in the model; the laws.
-/
import Derived.Test.YtgibpcmjfnmkdaaDoorBoardX
namespace Go.Proofs.YtgibpcmjfnmkdaaDoor
open Go.RowKit
theorem facN_le : ∀ k, k ≤ 9 → facN k ≤ 362880 := by decide
def cbV (x y : Int) : Int := if bSz x y = true then (cntB x.toNat y.toNat : Nat) else 0
theorem cbV_bad {x y : Int} (h : bSz x y = false) : cbV x y = 0 := by unfold cbV; rw [h]; rfl
theorem cbV_line {x y : Nat} (h : bSz x y = true) (hl : x = 1 ∨ y = 1) : cbV x y = (nn x y : Nat) := by
  unfold cbV cntB; rw [if_pos h, Int.toNat_natCast, Int.toNat_natCast, if_pos hl]
theorem cbV_fac {x y : Nat} (h : bSz x y = true) (hl : ¬ (x = 1 ∨ y = 1)) : cbV x y = (facN (nn x y) / 2 : Nat) := by
  unfold cbV cntB; rw [if_pos h, Int.toNat_natCast, Int.toNat_natCast, if_neg hl]
theorem bSz_nat {x y : Int} (h : bSz x y = true) : ∃ a b : Nat, x = a ∧ y = b ∧ 1 ≤ a ∧ a ≤ 3 ∧ 1 ≤ b ∧ b ≤ 3 := by
  have := bSz_iff.1 h
  exact ⟨x.toNat, y.toNat, by omega, by omega, by omega, by omega, by omega, by omega⟩
theorem btw13 {x : Int} : btw x 1 3 = true ↔ 1 ≤ x ∧ x ≤ 3 := by unfold btw; rw [Bool.and_eq_true, decide_eq_true_eq, decide_eq_true_eq]
theorem fin_ib' {a b : Int} {x y : Bool} (h1 : a = b) (h2 : x = y) : Ending.returned (.tuple #[.int .i64 a, .bool x]) = .returned (.tuple #[.int .i64 b, .bool y]) := by rw [h1, h2]
end Go.Proofs.YtgibpcmjfnmkdaaDoor
