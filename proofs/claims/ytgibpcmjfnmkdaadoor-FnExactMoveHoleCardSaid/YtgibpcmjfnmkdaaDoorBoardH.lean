/-
  What can be solved: in the program and in the model; the law.
-/
import Derived.Test.YtgibpcmjfnmkdaaDoorBoardG
namespace Go.Proofs.YtgibpcmjfnmkdaaDoor
open Go.RowKit
def csV (z : Int) (L : List Int) : Bool := bdOk z L && decide (parN z.toNat L = 0)
theorem csV_bad {z : Int} {L : List Int} (h : bdOk z L = false) : csV z L = false := by unfold csV; rw [h]; rfl
theorem csV_good {W : Nat} {L : List Int} (h : bdOk W L = true) : csV W L = decide (parN W L = 0) := by unfold csV; rw [h]; rfl
theorem fin_bb {a b x y : Bool} (h1 : a = b) (h2 : x = y) : Ending.returned (.tuple #[.bool a, .bool x]) = .returned (.tuple #[.bool b, .bool y]) := by rw [h1, h2]
theorem ordTo_iff {L : List Int} {k : Nat} : ordTo L k = true ↔ ∀ j, j < k → ∀ i, i < j → gi L j ≤ 0 ∨ gi L i ≤ gi L j := by
  unfold ordTo
  rw [List.all_eq_true]
  constructor
  · intro h j hj i hi
    have := h j (List.mem_range.2 hj)
    rw [List.all_eq_true] at this
    simpa using this i (List.mem_range.2 hi)
  · intro h j hj
    rw [List.all_eq_true]
    intro i hi
    simpa using h j (List.mem_range.1 hj) i (List.mem_range.1 hi)
theorem natz (n : Nat) : ((n : Int) == 0) = decide (n = 0) := by rw [Bool.eq_iff_iff]; simp
/-- What is known of the greatest number so far. -/
def lastOk (L : List Int) (k : Nat) (m : Int) : Prop := (∀ i, i < k → gi L i ≤ m) ∧ (m = 0 ∨ ∃ i, i < k ∧ gi L i = m) ∧ 0 ≤ m ∧ ∀ j, j < k → ∀ i, i < j → gi L j ≤ 0 ∨ gi L i ≤ gi L j
theorem lastOk_step {L : List Int} {k : Nat} {m : Int} (h : lastOk L k m) (hx : ¬ (0 < gi L k ∧ gi L k < m)) : lastOk L (k + 1) (if m > gi L k then m else gi L k) := by
  obtain ⟨h1, h2, h3, h4⟩ := h
  refine ⟨fun i hi => ?_, ?_, ?_, fun j hj i hi => ?_⟩
  · by_cases e : i = k
    · subst e; split <;> omega
    · have := h1 i (by omega)
      split <;> omega
  · split
    · rcases h2 with h2 | ⟨i, hi, e⟩
      · exact .inl h2
      · exact .inr ⟨i, by omega, e⟩
    · exact .inr ⟨k, by omega, rfl⟩
  · split <;> omega
  · by_cases e : j = k
    · subst e
      have := h1 i hi
      by_cases g : 0 < gi L j
      · right; omega
      · left; omega
    · exact h4 j (by omega) i hi
theorem lastOk_not {L : List Int} {k : Nat} {m : Int} (h : lastOk L k m) (hk : k < L.length) (hx : 0 < gi L k ∧ gi L k < m) : ordTo L L.length = false := by
  rw [← Bool.not_eq_true, ordTo_iff]
  intro ho
  obtain ⟨-, h2, -, -⟩ := h
  rcases h2 with h2 | ⟨i, hi, e⟩
  · omega
  · have := ho k hk i hi
    omega
theorem tdiv_pos' {W H n : Nat} (hn : n = nn W H) (hW : 1 ≤ W) : Int.tdiv (n : Int) (W : Int) = (H : Int) := by rw [hn, tdiv_nat, nn_div hW]
end Go.Proofs.YtgibpcmjfnmkdaaDoor
