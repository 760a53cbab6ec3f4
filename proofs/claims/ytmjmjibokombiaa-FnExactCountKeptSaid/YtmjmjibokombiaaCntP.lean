/-
  Plain maths of trays counted: numbers of sets, and the ways to share balls among stretches.
-/
import Derived.Test.YtmjmjibokombiaaBLs
namespace Go.Proofs.Ytmjmjibokombiaa
open Go.RowKit
/-- A number of sets, as both count it. -/
def chN (n : Nat) : Nat → Nat
  | 0 => 1
  | i + 1 => chN n i * (n - i) / (i + 1)
theorem chN_le36 {n i : Nat} (hn : n ≤ 36) (hi : i ≤ 36) : chN n i ≤ 9075135300 := by
  have h : ∀ a : Fin 37, ∀ b : Fin 37, chN a.val b.val ≤ 9075135300 := by decide +kernel
  exact h ⟨n, by omega⟩ ⟨i, by omega⟩
theorem chN_pos {n i : Nat} (hn : n ≤ 36) (hi : i ≤ n) : 1 ≤ chN n i := by
  have h : ∀ a : Fin 37, ∀ b : Fin 37, b.val ≤ a.val → 1 ≤ chN a.val b.val := by decide +kernel
  exact h ⟨n, by omega⟩ ⟨i, by omega⟩ hi
theorem chN_le29 {n i : Nat} (hn : n ≤ 29) (hi : i ≤ n) : chN n i ≤ 77558760 := by
  have h : ∀ a : Fin 30, ∀ b : Fin 30, b.val ≤ a.val → chN a.val b.val ≤ 77558760 := by decide +kernel
  exact h ⟨n, by omega⟩ ⟨i, by omega⟩ hi
theorem chN_le6 {n i : Nat} (hn : n ≤ 36) (hi : i ≤ 6) : chN n i ≤ 1947792 := by
  have h : ∀ a : Fin 37, ∀ b : Fin 7, chN a.val b.val ≤ 1947792 := by decide +kernel
  exact h ⟨n, by omega⟩ ⟨i, by omega⟩
theorem chN_mul {n a b : Nat} (hn : n ≤ 36) (ha : a ≤ n) (hb : b ≤ n - a) : chN n a * chN (n - a) b ≤ 1000000000000000000 := by
  by_cases h : n - a ≤ 29
  · exact Nat.le_trans (Nat.mul_le_mul (chN_le36 hn (by omega)) (chN_le29 h hb)) (by decide)
  · exact Nat.le_trans (Nat.mul_le_mul (chN_le6 hn (by omega)) (chN_le36 (show n - a ≤ 36 by omega) (by omega))) (by decide)
/-! ### Sums -/
def sumN (f : Nat → Nat) : Nat → Nat
  | 0 => 0
  | m + 1 => sumN f m + f m
theorem sumN_congr {f g : Nat → Nat} {m : Nat} (h : ∀ j, j < m → f j = g j) : sumN f m = sumN g m := by
  induction m with
  | zero => rfl
  | succ m ih => rw [sumN, sumN, ih fun j hj => h j (by omega), h m (by omega)]
theorem sumN_shift (f : Nat → Nat) (m : Nat) : sumN f (m + 1) = f 0 + sumN (fun j => f (j + 1)) m := by
  induction m with
  | zero => simp [sumN]
  | succ m ih => rw [sumN, ih, sumN, Nat.add_assoc]
theorem sumN_rev (f : Nat → Nat) (m : Nat) : sumN f m = sumN (fun j => f (m - 1 - j)) m := by
  induction m with
  | zero => rfl
  | succ m ih =>
    rw [sumN_shift (fun j => f (m + 1 - 1 - j)), sumN, Nat.add_comm]
    have e : sumN (fun j => f (m + 1 - 1 - (j + 1))) m = sumN (fun j => f (m - 1 - j)) m := sumN_congr fun j _ => by congr 1; omega
    rw [e, ← ih]
    rfl
theorem sumN_zero {f : Nat → Nat} {m : Nat} (h : ∀ j, j < m → f j = 0) : sumN f m = 0 := by
  induction m with
  | zero => rfl
  | succ m ih => rw [sumN, ih fun j hj => h j (by omega), h m (by omega)]
theorem sumN_add (f : Nat → Nat) (m k : Nat) : sumN f (m + k) = sumN f m + sumN (fun j => f (m + j)) k := by
  induction k with
  | zero => rfl
  | succ k ih => rw [← Nat.add_assoc, sumN, ih, sumN, Nat.add_assoc]
/-! ### Ways to share n balls among the first k stretches -/
def swS (L : List Nat) : Nat → Nat → Nat
  | 0, n => if n = 0 then 1 else 0
  | k + 1, n => sumN (fun j => swS L k (n - j)) (min (L.getD k 0) n + 1)
/-- A row of counts, as the machine keeps them. -/
def wrI (f : Nat → Nat) (n : Nat) : List Int := (List.range n).map fun i => wrap64 (f i : Nat)
theorem wrI_length (f : Nat → Nat) (n : Nat) : (wrI f n).length = n := by simp [wrI]
theorem wrI_get (f : Nat → Nat) {n i : Nat} (h : i < n) : (wrI f n)[i]? = some (wrap64 (f i : Nat)) := by
  unfold wrI
  rw [List.getElem?_map, List.getElem?_range h, Option.map_some]
theorem wrI_gi (f : Nat → Nat) {n i : Nat} (h : i < n) : gi (wrI f n) i = wrap64 (f i : Nat) := by
  unfold gi; rw [List.getD_eq_getElem?_getD, wrI_get f h, Option.getD_some]
theorem wrI_congr {f g : Nat → Nat} {n : Nat} (h : ∀ i, i < n → f i = g i) : wrI f n = wrI g n := by
  unfold wrI
  exact List.map_congr_left fun i hi => by rw [h i (List.mem_range.1 hi)]
theorem wrI_set (f : Nat → Nat) (n i x : Nat) : (wrI f n).set i (wrap64 (x : Nat)) = wrI (fun j => if j = i then x else f j) n := by
  apply List.ext_getElem?
  intro j
  rw [List.getElem?_set, wrI_length]
  by_cases hj : j < n
  · rw [wrI_get _ hj, wrI_get _ hj]
    by_cases e : i = j
    · subst e; rw [if_pos rfl, if_pos hj, if_pos rfl]
    · rw [if_neg e, if_neg fun h => e h.symm]
  · have h0 : ∀ g : Nat → Nat, (wrI g n)[j]? = none := fun g => List.getElem?_eq_none (by rw [wrI_length]; omega)
    rw [h0, h0]
    split
    · rw [if_neg (by omega)]
    · rfl
theorem wrap_add (a b : Int) : wrap64 (wrap64 a + wrap64 b) = wrap64 (a + b) := by unfold wrap64; omega
theorem wrap_mul (a b : Int) : wrap64 (wrap64 a * b) = wrap64 (a * b) := by
  have h : (wrap64 a * b) % 18446744073709551616 = (a * b) % 18446744073709551616 := by
    have e : wrap64 a % 18446744073709551616 = a % 18446744073709551616 := by unfold wrap64; omega
    rw [Int.mul_emod, e, ← Int.mul_emod]
  unfold wrap64 at h ⊢
  omega
theorem wrap_wrap (a : Int) : wrap64 (wrap64 a) = wrap64 a := by unfold wrap64; omega
/-- The program's row while the count at n is being made, m of its summands being in. -/
def swI (L : List Nat) (k n m : Nat) (i : Nat) : Nat :=
  if n < i then swS L (k + 1) i else if i = n then swS L k i + sumN (fun j => swS L k (i - 1 - j)) m else swS L k i
theorem swI_start (L : List Nat) (k b : Nat) : ∀ i, i < b + 1 → swI L k b 0 i = swS L k i := by
  intro i hi
  unfold swI
  rw [if_neg (by omega)]
  split
  · rfl
  · rfl
theorem swI_done {L : List Nat} {k n : Nat} (hn : 0 < n) : ∀ i, swI L k n (min n (L.getD k 0)) i = swI L k (n - 1) 0 i := by
  intro i
  unfold swI
  by_cases h1 : n < i
  · rw [if_pos h1, if_pos (by omega)]
  · rw [if_neg h1]
    by_cases h2 : i = n
    · subst h2
      rw [if_pos rfl, if_pos (by omega), swS, sumN_shift, Nat.min_comm]
      congr 1
      exact sumN_congr fun j _ => by congr 1; omega
    · rw [if_neg h2, if_neg (by omega)]
      split
      · rfl
      · rfl
theorem swS_zero (L : List Nat) (k : Nat) : swS L (k + 1) 0 = swS L k 0 := by
  rw [swS, Nat.min_zero]; simp [sumN]
theorem swI_last (L : List Nat) (k : Nat) : ∀ i, swI L k 0 0 i = swS L (k + 1) i := by
  intro i
  unfold swI
  by_cases h : 0 < i
  · rw [if_pos h]
  · obtain rfl : i = 0 := by omega
    rw [if_neg (Nat.lt_irrefl _), if_pos rfl, swS_zero]; rfl
theorem swI_step (L : List Nat) (k n m : Nat) (_hm : m < n) : ∀ i, (if i = n then swI L k n m n + swI L k n m (n - m - 1) else swI L k n m i) = swI L k n (m + 1) i := by
  intro i
  have e1 : swI L k n m (n - m - 1) = swS L k (n - 1 - m) := by
    unfold swI; rw [if_neg (by omega), if_neg (by omega)]; congr 1; omega
  rw [e1]
  by_cases h : i = n
  · subst h
    rw [if_pos rfl]
    unfold swI
    rw [if_neg (Nat.lt_irrefl _), if_neg (Nat.lt_irrefl _), if_pos rfl, if_pos rfl, sumN, Nat.add_assoc]
  · rw [if_neg h]
    unfold swI
    rw [if_neg h, if_neg h]
/-- The model's next row: those of the first a counts are in, and m of the next one's. -/
def swT (L : List Nat) (k a m : Nat) (i : Nat) : Nat :=
  sumN (fun x => if x ≤ i ∧ i ≤ x + L.getD k 0 then swS L k x else 0) a + if a ≤ i ∧ i < a + m then swS L k a else 0
theorem swT_zero (L : List Nat) (k i : Nat) : swT L k 0 0 i = 0 := by unfold swT; rw [if_neg (by omega)]; rfl
theorem swT_step (L : List Nat) (k a m : Nat) : ∀ i, (if i = a + m then swT L k a m (a + m) + swS L k a else swT L k a m i) = swT L k a (m + 1) i := by
  intro i
  unfold swT
  by_cases h : i = a + m
  · subst h
    rw [if_pos rfl, if_neg (by omega), if_pos (by omega)]; rfl
  · rw [if_neg h]
    by_cases h2 : a ≤ i ∧ i < a + m
    · rw [if_pos h2, if_pos (by omega)]
    · rw [if_neg h2, if_neg (by omega)]
theorem swT_done {L : List Nat} {k a m b : Nat} (h : m = L.getD k 0 + 1 ∨ (m ≤ L.getD k 0 ∧ b < a + m)) : ∀ i, i < b + 1 → swT L k a m i = swT L k (a + 1) 0 i := by
  intro i hi
  unfold swT
  rw [sumN, Nat.add_assoc]
  congr 1
  rw [if_neg (show ¬ (a + 1 ≤ i ∧ i < a + 1 + 0) by omega), Nat.add_zero]
  by_cases h2 : a ≤ i ∧ i < a + m
  · rw [if_pos h2, if_pos (by omega)]
  · rw [if_neg h2, if_neg (by omega)]
theorem swT_last (L : List Nat) (k b : Nat) : ∀ i, i < b + 1 → swT L k (b + 1) 0 i = swS L (k + 1) i := by
  intro i hi
  unfold swT
  rw [if_neg (by omega), Nat.add_zero]
  obtain ⟨d, rfl⟩ : ∃ d, b = i + d := ⟨b - i, by omega⟩
  rw [show i + d + 1 = (i + 1) + d by omega, sumN_add, sumN_zero (m := d) fun j _ => by rw [if_neg (by omega)], Nat.add_zero, sumN_rev, swS]
  have hs : i + 1 = (min (L.getD k 0) i + 1) + (i - min (L.getD k 0) i) := by omega
  rw [show sumN _ (i + 1) = sumN _ ((min (L.getD k 0) i + 1) + (i - min (L.getD k 0) i)) from congrArg _ hs, sumN_add]
  rw [sumN_zero (m := i - min (L.getD k 0) i) fun j hj => by rw [if_neg (by omega)], Nat.add_zero]
  refine sumN_congr fun j hj => ?_
  rw [if_pos (by omega)]
  congr 1
/-- The product over the first k stretches, as the machine multiplies. -/
def csP (L : List (List Nat)) : Nat → Int
  | 0 => 1
  | k + 1 => wrap64 (csP L k * ((((L.getD k []).length + 1 : Nat)) : Int))
theorem csP_succ {L : List (List Nat)} {k : Nat} {s : List Nat} (h : L[k]? = some s) : csP L (k + 1) = wrap64 (csP L k * ((s.length + 1 : Nat) : Int)) := by
  have e : L.getD k [] = s := by rw [List.getD_eq_getElem?_getD, h]; rfl
  rw [csP, e]
end Go.Proofs.Ytmjmjibokombiaa
