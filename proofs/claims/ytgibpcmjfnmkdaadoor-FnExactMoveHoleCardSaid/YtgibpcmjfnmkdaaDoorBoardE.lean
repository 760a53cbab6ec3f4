/-
  The parity of a board: in the program and in the model; the laws on the parity and on what can be solved.
-/
import Derived.Test.YtgibpcmjfnmkdaaDoorBoardY
namespace Go.Proofs.YtgibpcmjfnmkdaaDoor
open Go.RowKit
/-- The numbers with the hole as the greatest. -/
def bigL (L : List Int) : List Int := L.set (hI L) (L.length : Int)
theorem bigL_length (L : List Int) : (bigL L).length = L.length := by simp [bigL]
theorem gi_big {L : List Int} (h : hasAll L = true) (hl : 0 < L.length) (i : Nat) (hi : i < L.length) : gi (bigL L) i = big L.length (gi L i) := by
  obtain ⟨p1, p2, p3⟩ := hole_in h hl
  unfold bigL big
  rw [gi_set _ _ _ _ p1]
  by_cases e : i = hI L
  · rw [if_pos e, if_pos (by rw [e]; exact p2)]
  · rw [if_neg e, if_neg]
    intro h0
    rcases Nat.lt_or_ge i (hI L) with g | g
    · exact p3 i g h0
    · exact hasAll_ne h (hI L) i (by omega) hi (by rw [p2, h0])
def inn (L : List Int) (i j : Nat) : Nat := sumTo (fun t => one (decide (gi (bigL L) (i + t) < gi (bigL L) i))) j
def out (L : List Int) (k : Nat) : Nat := sumTo (fun i => inn L i (L.length - i)) k
theorem inn_le (L : List Int) (i : Nat) : ∀ j, inn L i j ≤ j
  | 0 => Nat.le_refl _
  | j + 1 => by
    have h := inn_le L i j
    unfold inn at h ⊢
    rw [sumTo]
    have : ∀ b, one b ≤ 1 := by decide
    have := this (decide (gi (bigL L) (i + j) < gi (bigL L) i))
    omega
theorem out_le (L : List Int) (h9 : L.length ≤ 9) : ∀ k, out L k ≤ 9 * k
  | 0 => Nat.le_refl _
  | k + 1 => by
    have h := out_le L h9 k
    have h2 := inn_le L k (L.length - k)
    unfold out at h ⊢
    rw [sumTo]
    omega
theorem out_all {L : List Int} (h : hasAll L = true) (hl : 0 < L.length) : out L L.length = prA L := by
  unfold out prA
  apply sumTo_congr
  intro i hi
  unfold inn
  apply sumTo_congr
  intro t ht
  rw [gi_big h hl (i + t) (by omega), gi_big h hl i hi]
def paV (z : Int) (L : List Int) : Int := if bdOk z L = true then (parN z.toNat L : Nat) else 0
theorem paV_bad {z : Int} {L : List Int} (h : bdOk z L = false) : paV z L = 0 := by unfold paV; rw [h]; rfl
theorem paV_good {W : Nat} {L : List Int} (h : bdOk W L = true) : paV W L = (parN W L : Nat) := by unfold paV; rw [h]; rfl
theorem stp_le {W i j : Nat} (hi : i ≤ 9) (hj : j ≤ 9) (hW : 1 ≤ W) (hW3 : W ≤ 3) : stp W i j ≤ 27 := by
  have a1 : i % W < W := Nat.mod_lt _ (by omega)
  have a2 : j % W < W := Nat.mod_lt _ (by omega)
  have a3 : i / W ≤ i := Nat.div_le_self _ _
  have a4 : j / W ≤ j := Nat.div_le_self _ _
  unfold stp
  generalize i % W = a at *
  generalize j % W = b at *
  generalize i / W = c at *
  generalize j / W = d at *
  omega
theorem own_neB {w : World} {base : Nat} {e : TypeId} {size g m cap : Nat} {n : Nat} {xs : List Value} (hr : w.ownsRow base e size (.slice (some ⟨g, 0, none⟩) m cap) n xs) {B : Nat} {cs : Array Value} {T : TypeId} (hB : Blk w B cs T) (hT : T ≠ e) : B ≠ g :=
  fun h => own_ne hr hB hT (by rw [h]; rfl)
end Go.Proofs.YtgibpcmjfnmkdaaDoor
