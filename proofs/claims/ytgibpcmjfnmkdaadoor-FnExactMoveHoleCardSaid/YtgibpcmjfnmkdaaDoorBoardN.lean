/-
  The sum of the steps of all blocks: in the program and in the model; the law.
-/
import Derived.Test.YtgibpcmjfnmkdaaDoorBoardH
namespace Go.Proofs.YtgibpcmjfnmkdaaDoor
open Go.RowKit
def mhV (z : Int) (L : List Int) : Int := if bdOk z L = true then (manT z.toNat L L.length : Nat) else 0
theorem mhV_bad {z : Int} {L : List Int} (h : bdOk z L = false) : mhV z L = 0 := by unfold mhV; rw [h]; rfl
theorem mhV_good {W : Nat} {L : List Int} (h : bdOk W L = true) : mhV W L = (manT W L L.length : Nat) := by unfold mhV; rw [h]; rfl
theorem manT_le {W : Nat} {L : List Int} (hW : 1 ≤ W) (hW3 : W ≤ 3) (hl : L.length ≤ 9) (hA : hasAll L = true) : ∀ k, k ≤ L.length → manT W L k ≤ 27 * k
  | 0, _ => Nat.le_refl _
  | k + 1, hk => by
    have h := manT_le hW hW3 hl hA k (by omega)
    unfold manT at h ⊢
    rw [sumTo]
    split
    · omega
    · have := hasAll_lt hA k (by omega)
      have := stp_le (W := W) (i := k) (j := (gi L k - 1).toNat) (by omega) (by omega) hW hW3
      omega
theorem manT_hole {W : Nat} {L : List Int} {k : Nat} (h : gi L k = 0) : manT W L (k + 1) = manT W L k := by unfold manT; rw [sumTo, if_pos h]; rfl
theorem manT_block {W : Nat} {L : List Int} {k x : Nat} (h : gi L k = (x : Int) + 1) : manT W L (k + 1) = manT W L k + stp W k x := by
  unfold manT; rw [sumTo, if_neg (by omega), h]
  congr 2
  omega
end Go.Proofs.YtgibpcmjfnmkdaaDoor
