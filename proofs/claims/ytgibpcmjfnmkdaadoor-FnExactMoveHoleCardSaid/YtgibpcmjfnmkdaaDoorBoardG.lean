/-
  The parity of a board in the model; the laws on the parity and on what can be solved.
-/
import Derived.Test.YtgibpcmjfnmkdaaDoorBoardE
namespace Go.Proofs.YtgibpcmjfnmkdaaDoor
open Go.RowKit
/-- A cell's rank, the hole the greatest. -/
def rk (n : Nat) (x : Int) : Int := (x + n - 1) % n
def innB (L : List Int) (j i : Nat) : Nat := sumTo (fun i => one (decide (rk L.length (gi L j) < rk L.length (gi L i)))) i
def outB (L : List Int) (k : Nat) : Nat := sumTo (fun j => innB L j j) k
theorem innB_le (L : List Int) (j : Nat) : ∀ i, innB L j i ≤ i
  | 0 => Nat.le_refl _
  | i + 1 => by
    have h := innB_le L j i
    unfold innB at h ⊢
    rw [sumTo]
    have : ∀ b, one b ≤ 1 := by decide
    have := this (decide (rk L.length (gi L j) < rk L.length (gi L i)))
    omega
theorem outB_le (L : List Int) : ∀ k, k ≤ 9 → outB L k ≤ 9 * k
  | 0, _ => Nat.le_refl _
  | k + 1, h9 => by
    have h := outB_le L k (by omega)
    have h2 := innB_le L k k
    unfold outB at h ⊢
    rw [sumTo]
    omega
theorem outB_all {L : List Int} (h : hasAll L = true) : outB L L.length = prA L := by
  rw [← pr_same h]
  rfl
theorem rk_tmod {n : Nat} {x : Int} (h0 : 0 ≤ x) (hn : x < n) : Int.tmod (x + (n : Int) - 1) (n : Int) = rk n x := by
  unfold rk
  exact Int.tmod_eq_emod_of_nonneg (by omega)
theorem rk_range {n : Nat} {x : Int} (hn : 0 < n) : 0 ≤ rk n x ∧ rk n x < n := by
  unfold rk
  exact ⟨Int.emod_nonneg _ (by omega), Int.emod_lt_of_pos _ (by omega)⟩
end Go.Proofs.YtgibpcmjfnmkdaaDoor
