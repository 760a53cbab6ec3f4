/-
  The solved board: in the program and in the model; the law.
-/
import Derived.Test.YtgibpcmjfnmkdaaDoorBoardC
namespace Go.Proofs.YtgibpcmjfnmkdaaDoor
open Go.RowKit
/-- 1, 2, .., k. -/
def ascL (k : Nat) : List Int := genI k fun i => (i : Int) + 1
theorem ascL_length (k : Nat) : (ascL k).length = k := genI_length _ _
theorem ascL_succ (k : Nat) : ascL k ++ [(k : Int) + 1] = ascL (k + 1) := by
  unfold ascL genI
  rw [List.range_succ, List.map_append]
  rfl
theorem solL_st {n : Nat} (h : 1 ≤ n) : ascL (n - 1) ++ [0] = solL n := by
  apply int_ext (by rw [List.length_append, ascL_length, solL_length]; simp; omega)
  intro i hi
  rw [List.length_append, ascL_length] at hi
  simp at hi
  rw [solL_at n i (by omega)]
  unfold gi
  rw [List.getD, List.getElem?_append]
  rw [ascL_length]
  by_cases e : i < n - 1
  · rw [if_pos e, if_neg (by omega)]
    unfold ascL genI
    simp [e]
  · rw [if_neg e, if_pos (by omega)]
    rw [show i - (n - 1) = 0 by omega]
    rfl
def sbW (x y : Int) : Int := if bSz x y = true then x else 0
def sbL (x y : Int) : List Int := if bSz x y = true then solL (nn x.toNat y.toNat) else []
theorem sb_bad {x y : Int} (h : bSz x y = false) : sbW x y = 0 ∧ sbL x y = [] := by unfold sbW sbL; rw [h]; exact ⟨rfl, rfl⟩
theorem sb_good {x y : Nat} (h : bSz x y = true) : sbW x y = x ∧ sbL x y = solL (nn x y) := by unfold sbW sbL; rw [h]; exact ⟨rfl, rfl⟩
theorem sbL_le (x y : Int) : (sbL x y).length ≤ 9 := by
  by_cases h : bSz x y = true
  · obtain ⟨a, b, rfl, rfl, h1, h2, h3, h4⟩ := bSz_nat h
    rw [(sb_good h).2, solL_length]
    exact Nat.mul_le_mul h2 h4
  · rw [(sb_bad (by simpa using h)).2]; exact Nat.zero_le _
theorem fin_vb2 {a b : Int} {v : Value} {x y : Bool} (h1 : a = b) (h2 : x = y) : Ending.returned (.tuple #[.agg (bv a v), .bool x]) = .returned (.tuple #[.agg (bv b v), .bool y]) := by rw [h1, h2]
theorem own_apartB {w1 w2 : World} {b1 b2 : Nat} {e1 e2 : TypeId} {s1 s2 : Nat} {v1 v2 : Value} {n1 n2 : Nat} {x1 x2 : List Value} (h1 : w1.ownsRow b1 e1 s1 v1 n1 x1) (h2 : w2.ownsRow b2 e2 s2 v2 n2 x2) (hb : w1.heap.size ≤ b2) : v1.ownBlock = none ∨ v1.ownBlock ≠ v2.ownBlock := by
  cases h : v1.ownBlock with
  | none => exact .inl rfl
  | some k =>
    refine .inr fun e => ?_
    have a := (h1.lt k h).2
    have b := (h2.lt k e.symm).1
    omega
end Go.Proofs.YtgibpcmjfnmkdaaDoor
