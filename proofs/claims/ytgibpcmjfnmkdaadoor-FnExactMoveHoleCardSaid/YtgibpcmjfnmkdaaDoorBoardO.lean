/-
  The mirrored board: in the program and in the model; the law.
-/
import Derived.Test.YtgibpcmjfnmkdaaDoorBoardN
import Derived.Test.YtgibpcmjfnmkdaaDoorBoardD
namespace Go.Proofs.YtgibpcmjfnmkdaaDoor
open Go.RowKit
theorem apart_symm {a b : Option Nat} (h : a = none ∨ a ≠ b) : b = none ∨ b ≠ a := by
  cases b with
  | none => exact .inl rfl
  | some k =>
    refine .inr fun e => ?_
    rcases h with h | h
    · rw [h] at e; cases e
    · exact h e.symm
def mbW (z : Int) (L : List Int) : Int := if bdOk z L = true then ((L.length / z.toNat : Nat) : Int) else 0
def mbL (z : Int) (L : List Int) : List Int := if bdOk z L = true then mirTo z.toNat (L.length / z.toNat) L L.length else []
theorem mb_bad {z : Int} {L : List Int} (h : bdOk z L = false) : mbW z L = 0 ∧ mbL z L = [] := by unfold mbW mbL; rw [h]; exact ⟨rfl, rfl⟩
theorem mb_good {W H n : Nat} {L : List Int} (h : bdOk W L = true) (hl : L.length = nn W H) (hW : 1 ≤ W) (hn : n = L.length) : mbW W L = H ∧ mbL W L = mirTo W H L n := by
  unfold mbW mbL
  rw [if_pos h, if_pos h, Int.toNat_natCast, hn, hl, nn_div hW]
  exact ⟨rfl, rfl⟩
theorem mbL_le (z : Int) (L : List Int) : (mbL z L).length ≤ 9 := by
  rcases rdB_cases z L with ⟨h1, -⟩ | ⟨W, H, rfl, h1, -, hn, k1, k2, k3, k4, -⟩
  · rw [(mb_bad h1).2]; exact Nat.zero_le _
  · rw [(mb_good h1 hn k1 rfl).2, mirTo_length, hn]
    exact Nat.mul_le_mul k2 k4
theorem mirC_le {W H i : Nat} (hW : 1 ≤ W) (hW3 : W ≤ 3) (hH3 : H ≤ 3) (hi : i ≤ 9) : mirC W H i ≤ 18 := by
  have a1 : i % W < W := Nat.mod_lt _ (by omega)
  have a3 : i / W ≤ i := Nat.div_le_self _ _
  have a2 : i % W * H ≤ 9 := Nat.le_trans (Nat.mul_le_mul (show i % W ≤ 3 by omega) hH3) (by decide)
  unfold mirC
  omega
theorem mirTo_block {W H : Nat} {L : List Int} {k x : Nat} (h : gi L k = (x : Int) + 1) : (mirTo W H L k).set (mirC W H k) ((mirC W H x : Nat) + 1) = mirTo W H L (k + 1) := by
  rw [mirTo]
  congr 1
  unfold mirV
  rw [h, if_neg (by omega)]
  congr 2
  rw [show ((x : Int) + 1 - 1).toNat = x by omega]
end Go.Proofs.YtgibpcmjfnmkdaaDoor
