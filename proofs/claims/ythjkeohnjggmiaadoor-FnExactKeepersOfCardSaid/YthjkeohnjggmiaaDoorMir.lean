/-
  Plain mathematics: the cells of a grid turned and mirrored.
-/
import Derived.Test.YthjkeohnjggmiaaDoorText
namespace Go.Proofs.YthjkeohnjggmiaaDoor
/-- A list by its places. -/
def genC (n : Nat) (f : Nat → UInt8) : List UInt8 := (List.range n).map f
theorem genC_length (n : Nat) (f : Nat → UInt8) : (genC n f).length = n := by simp [genC]
theorem genC_at (n : Nat) (f : Nat → UInt8) (i : Nat) : at0 (genC n f) i = if i < n then f i else 0 := by
  unfold at0 genC
  by_cases h : i < n
  · rw [if_pos h]; simp [List.getD, h]
  · rw [if_neg h]; simp [List.getD, h]
theorem at0_none (c : List UInt8) (i : Nat) (h : c.length ≤ i) : at0 c i = 0 := by
  unfold at0; simp [List.getD, h]
theorem list_ext {c d : List UInt8} (h1 : c.length = d.length) (h : ∀ i, i < c.length → at0 c i = at0 d i) : c = d := by
  apply List.ext_getElem h1
  intro i hi hj
  have := h i hi
  unfold at0 at this
  simpa [List.getD, hi, hj] using this
theorem genC_self (c : List UInt8) : genC c.length (at0 c) = c := by
  apply list_ext (genC_length _ _)
  intro i hi
  rw [genC_length] at hi
  rw [genC_at, if_pos hi]
theorem genC_congr {n : Nat} {f g : Nat → UInt8} (h : ∀ i, i < n → f i = g i) : genC n f = genC n g := by
  unfold genC
  apply List.map_congr_left
  intro i hi
  exact h i (List.mem_range.1 hi)
theorem genC_set (n : Nat) (f : Nat → UInt8) (j : Nat) (b : UInt8) : (genC n f).set j b = genC n fun i => if i = j then b else f i := by
  apply list_ext (by simp [genC_length])
  intro i hi
  rw [List.length_set, genC_length] at hi
  rw [genC_at, if_pos hi]
  by_cases hj : j < n
  · have := genC_length n f
    unfold at0
    by_cases e : i = j
    · subst e; rw [if_pos rfl]; simp [List.getD, this, hi]
    · rw [if_neg e]; simp only [List.getD]; rw [List.getElem?_set_ne (Ne.symm e)]
      have h2 := genC_at n f i
      rw [if_pos hi] at h2
      exact h2
  · rw [List.set_eq_of_length_le (by rw [genC_length]; omega), genC_at, if_pos hi, if_neg (by omega)]
/-- Where the cell i of the grid with columns and rows exchanged comes from. -/
def srcT (W H i : Nat) : Nat := (i % H) * W + i / H
/-- Where the cell i of the grid with its rows backwards comes from. -/
def srcM (W i : Nat) : Nat := (i / W) * W + (W - 1 - i % W)
def trC (W H : Nat) (c : List UInt8) : List UInt8 := genC (nn W H) fun i => at0 c (srcT W H i)
def miC (W H : Nat) (c : List UInt8) : List UInt8 := genC (nn W H) fun i => at0 c (srcM W i)
theorem trC_length (W H : Nat) (c : List UInt8) : (trC W H c).length = nn W H := genC_length _ _
theorem miC_length (W H : Nat) (c : List UInt8) : (miC W H c).length = nn W H := genC_length _ _
theorem nn_comm (a b : Nat) : nn a b = nn b a := Nat.mul_comm a b
theorem row_lt {W H i : Nat} (h : i < nn W H) : i / W < H := Nat.div_lt_of_lt_mul h
theorem pair_mod {W x y : Nat} (h : x < W) : (y * W + x) % W = x := by rw [Nat.mul_comm, Nat.mul_add_mod]; exact Nat.mod_eq_of_lt h
theorem pair_div {W x y : Nat} (h : x < W) : (y * W + x) / W = y := by
  have hW : 0 < W := by omega
  rw [Nat.mul_comm, Nat.mul_add_div hW, Nat.div_eq_of_lt h]
  rfl
theorem pair_lt {W H x y : Nat} (hx : x < W) (hy : y < H) : y * W + x < nn W H := by
  unfold nn
  have : W * y + W ≤ W * H := by rw [← Nat.mul_succ]; exact Nat.mul_le_mul_left _ hy
  rw [Nat.mul_comm y W]; omega
theorem pair_eq (W i : Nat) : (i / W) * W + i % W = i := by rw [Nat.mul_comm]; exact Nat.div_add_mod i W
theorem srcT_mod {W H i : Nat} (h : i < nn W H) : srcT W H i % W = i / H ∧ srcT W H i / W = i % H := by
  have h1 : i / H < W := row_lt (by rw [nn_comm]; exact h)
  unfold srcT
  exact ⟨pair_mod h1, pair_div h1⟩
theorem srcT_lt {W H i : Nat} (h : i < nn W H) (hH : 0 < H) : srcT W H i < nn W H := by
  unfold srcT
  exact pair_lt (row_lt (by rw [nn_comm]; exact h)) (Nat.mod_lt _ hH)
theorem srcM_mod {W i : Nat} (hW : 0 < W) : srcM W i % W = W - 1 - i % W ∧ srcM W i / W = i / W := by
  have h1 : W - 1 - i % W < W := by omega
  unfold srcM
  exact ⟨pair_mod h1, pair_div h1⟩
theorem srcM_lt {W H i : Nat} (hW : 0 < W) (h : i < nn W H) : srcM W i < nn W H := by
  unfold srcM
  exact pair_lt (by omega) (row_lt h)
/-- Turned: the model's way of saying it. -/
def tuS (W H : Nat) (c : List UInt8) : List UInt8 := genC (nn W H) fun i => at0 c ((H - 1 - i % H) * W + i / H)
theorem tuS_eq (W H : Nat) (c : List UInt8) (hH : 0 < H) : miC H W (trC W H c) = tuS W H c := by
  unfold miC tuS
  rw [nn_comm H W]
  apply genC_congr
  intro i hi
  have h1 := srcM_mod (i := i) hH
  have h2 : srcM H i < nn W H := by rw [nn_comm]; exact srcM_lt hH (by rw [nn_comm]; exact hi)
  unfold trC
  rw [genC_at, if_pos h2]
  unfold srcT
  rw [h1.1, h1.2]
theorem tuS_tr (W H : Nat) (c : List UInt8) (hH : 0 < H) : miC H W (tuS W H c) = trC W H c := by
  unfold miC trC
  rw [nn_comm H W]
  apply genC_congr
  intro i hi
  have h1 := srcM_mod (i := i) hH
  have h2 : srcM H i < nn W H := by rw [nn_comm]; exact srcM_lt hH (by rw [nn_comm]; exact hi)
  have h3 : i % H < H := Nat.mod_lt _ hH
  unfold tuS
  rw [genC_at, if_pos h2, h1.1, h1.2]
  unfold srcT
  congr 2
  congr 1
  omega
/-! a part of the cells backwards -/
def revTo (c : List UInt8) (o n k : Nat) : List UInt8 := genC c.length fun i => if o ≤ i ∧ i < o + n ∧ (i - o < k ∨ n - 1 - (i - o) < k) then at0 c (o + (n - 1 - (i - o))) else at0 c i
def revC (c : List UInt8) (o n : Nat) : List UInt8 := genC c.length fun i => if o ≤ i ∧ i < o + n then at0 c (o + (n - 1 - (i - o))) else at0 c i
theorem revTo_length (c : List UInt8) (o n k : Nat) : (revTo c o n k).length = c.length := genC_length _ _
theorem revTo_zero (c : List UInt8) (o n : Nat) : revTo c o n 0 = c := by
  refine Eq.trans (genC_congr fun i hi => ?_) (genC_self c)
  rw [if_neg (by omega)]
theorem revTo_end (c : List UInt8) (o n k : Nat) (h : n ≤ 2 * k + 1) : revTo c o n k = revC c o n := by
  apply genC_congr
  intro i hi
  by_cases h1 : o ≤ i ∧ i < o + n
  · rw [if_pos h1]
    by_cases h2 : i - o < k ∨ n - 1 - (i - o) < k
    · rw [if_pos ⟨h1.1, h1.2, h2⟩]
    · rw [if_neg (by omega)]
      congr 1
      omega
  · rw [if_neg h1, if_neg (by omega)]
theorem revTo_at (c : List UInt8) (o n k i : Nat) (h : ¬ (i - o < k ∨ n - 1 - (i - o) < k)) : at0 (revTo c o n k) i = at0 c i := by
  unfold revTo
  rw [genC_at]
  by_cases hi : i < c.length
  · rw [if_pos hi, if_neg (by omega)]
  · rw [if_neg hi, at0_none c i (by omega)]
theorem revTo_succ (c : List UInt8) (o n k : Nat) (h : 2 * k + 1 < n) : ((revTo c o n k).set (o + k) (at0 c (o + (n - 1 - k)))).set (o + (n - 1 - k)) (at0 c (o + k)) = revTo c o n (k + 1) := by
  unfold revTo
  rw [genC_set, genC_set]
  apply genC_congr
  intro i hi
  by_cases e1 : i = o + (n - 1 - k)
  · subst e1
    rw [if_pos rfl, if_pos (by omega)]
    congr 1
    omega
  · rw [if_neg e1]
    by_cases e2 : i = o + k
    · subst e2
      rw [if_pos rfl, if_pos (by omega)]
      congr 1
      omega
    · rw [if_neg e2]
      by_cases h3 : o ≤ i ∧ i < o + n ∧ (i - o < k ∨ n - 1 - (i - o) < k)
      · rw [if_pos h3, if_pos (by omega)]
      · rw [if_neg h3, if_neg (by omega)]
/-- The first k rows backwards. -/
def miTo (W H : Nat) (c : List UInt8) (k : Nat) : List UInt8 := genC (nn W H) fun i => if i / W < k then at0 c (srcM W i) else at0 c i
theorem miTo_length (W H : Nat) (c : List UInt8) (k : Nat) : (miTo W H c k).length = nn W H := genC_length _ _
theorem miTo_zero (W H : Nat) (c : List UInt8) (h : c.length = nn W H) : miTo W H c 0 = c := by
  unfold miTo
  rw [← h]
  refine Eq.trans (genC_congr fun i hi => ?_) (genC_self c)
  rw [if_neg (Nat.not_lt_zero _)]
theorem miTo_end (W H : Nat) (c : List UInt8) : miTo W H c H = miC W H c := by
  apply genC_congr
  intro i hi
  rw [if_pos (row_lt hi)]
theorem miTo_succ (W H : Nat) (c : List UInt8) (k : Nat) (hW : 0 < W) (hk : k < H) : revC (miTo W H c k) (nn W k) W = miTo W H c (k + 1) := by
  unfold revC
  rw [miTo_length]
  have hle := nn_row (W := W) hk
  apply genC_congr
  intro i hi
  by_cases h1 : nn W k ≤ i ∧ i < nn W k + W
  · rw [if_pos h1]
    obtain ⟨x, rfl⟩ : ∃ x, i = nn W k + x := ⟨i - nn W k, by omega⟩
    have hx : x < W := by omega
    have e1 : nn W k + x = k * W + x := by unfold nn; rw [Nat.mul_comm]
    have e2 : nn W k + (W - 1 - x) = k * W + (W - 1 - x) := by unfold nn; rw [Nat.mul_comm]
    have e3 : nn W k + x - nn W k = x := by omega
    rw [e3, e1, e2, pair_div hx, if_pos (by omega)]
    unfold miTo srcM
    rw [genC_at, if_pos (by rw [← e2]; omega), pair_div (by omega), if_neg (by omega), pair_div hx, pair_mod hx]
  · rw [if_neg h1]
    have hne : i / W ≠ k := by
      intro e
      have h2 := pair_eq W i
      have h3 := Nat.mod_lt i hW
      rw [e] at h2
      unfold nn at h1
      rw [Nat.mul_comm] at h1
      omega
    unfold miTo
    rw [genC_at, if_pos hi]
    by_cases h2 : i / W < k
    · rw [if_pos h2, if_pos (by omega)]
    · rw [if_neg h2, if_neg (by omega)]
/-- The first k cells, columns and rows exchanged, and zeros else. -/
def trTo (W H : Nat) (c : List UInt8) (k : Nat) : List UInt8 := genC 36 fun i => if i < nn W H ∧ srcT W H i < k then at0 c (srcT W H i) else 0
theorem trTo_length (W H : Nat) (c : List UInt8) (k : Nat) : (trTo W H c k).length = 36 := genC_length _ _
theorem trTo_zero (W H : Nat) (c : List UInt8) (i : Nat) : at0 (trTo W H c 0) i = at0 [] i := by
  unfold trTo
  rw [genC_at]
  split
  · rw [if_neg (by omega)]; rfl
  · rfl
theorem trTo_end (W H : Nat) (c : List UInt8) (hH : 0 < H) (i : Nat) (hi : i < 36) : at0 (trTo W H c (nn W H)) i = at0 (trC W H c) i := by
  unfold trTo trC
  rw [genC_at, if_pos hi, genC_at]
  by_cases h : i < nn W H
  · rw [if_pos h, if_pos ⟨h, srcT_lt h hH⟩]
  · rw [if_neg h, if_neg (by omega)]
theorem trTo_succ (W H : Nat) (c : List UInt8) (k : Nat) (hW : 0 < W) (hk : k < nn W H) : (trTo W H c k).set (nn H (k % W) + k / W) (at0 c k) = trTo W H c (k + 1) := by
  unfold trTo
  rw [genC_set]
  apply genC_congr
  intro i hi
  have hy : k / W < H := row_lt hk
  have hx : k % W < W := Nat.mod_lt _ hW
  have ej : nn H (k % W) + k / W = (k % W) * H + k / W := by unfold nn; rw [Nat.mul_comm]
  have hj : (k % W) * H + k / W < nn W H := by rw [nn_comm]; exact pair_lt hy hx
  rw [ej]
  by_cases e : i = (k % W) * H + k / W
  · subst e
    have es : srcT W H ((k % W) * H + k / W) = k := by
      unfold srcT
      rw [pair_mod hy, pair_div hy, pair_eq]
    rw [if_pos rfl, es, if_pos ⟨hj, by omega⟩]
  · rw [if_neg e]
    by_cases h : i < nn W H
    · have hne : srcT W H i ≠ k := by
        intro e2
        have h3 := srcT_mod h
        rw [e2] at h3
        apply e
        rw [h3.1, h3.2, pair_eq]
      by_cases h4 : srcT W H i < k
      · rw [if_pos ⟨h, h4⟩, if_pos ⟨h, by omega⟩]
      · rw [if_neg (by omega), if_neg (by omega)]
    · rw [if_neg (by omega), if_neg (by omega)]
theorem trTo_fin (W H : Nat) (c : List UInt8) (i : Nat) (hi : i < 36) : at0 (trTo W H c (nn W H)) i = at0 (trC W H c) i := by
  rcases Nat.eq_zero_or_pos H with rfl | h
  · rw [show nn W 0 = 0 from rfl, trTo_zero]; rfl
  · exact trTo_end W H c h i hi
theorem tuS_all (W H : Nat) (c : List UInt8) : miC H W (trC W H c) = tuS W H c := by
  rcases Nat.eq_zero_or_pos H with rfl | h
  · unfold miC tuS; rw [nn_comm]; rfl
  · exact tuS_eq W H c h
end Go.Proofs.YthjkeohnjggmiaaDoor
