/-
  How many trays a move keeps, as plain mathematics: the cycles of cells, and the ways to fill them.
-/
import Derived.Test.YtmjmjibokombiaaCycP
import Derived.Test.YtmjmjibokombiaaCntM
import Derived.Test.YtmjmjibokombiaaBMv
namespace Go.Proofs.Ytmjmjibokombiaa
open Go.RowKit
def idG (W H : Nat) : Grid := ⟨W, H, (List.range (nn W H)).map UInt8.ofNat⟩
/-- Which cell lies at each place behind a move. -/
def pmP (W H k : Nat) : List Nat := (moveG k (idG W H)).c.map UInt8.toNat
def rotK : Nat → Nat × Nat × Nat × Nat → Nat × Nat × Nat × Nat
  | 0, s => s
  | k + 1, (w, h, x, y) => rotK k (h, w, h - 1 - y, x)
/-- Where a move puts a cell. -/
def toK (W H k i : Nat) : Nat :=
  let s := rotK (k % 4) (W, H, if 4 ≤ k then W - 1 - i % W else i % W, i / W)
  s.2.2.2 * s.1 + s.2.2.1
def pmM (W H k : Nat) : List Nat := (List.range (nn W H)).map (toK W H k)
def szs (p : List Nat) : List Nat := (cyL p p.length).map List.length
def fitK (W H k : Nat) : Bool := decide (1 ≤ W) && decide (1 ≤ H) && decide (nn W H ≤ 36) && (decide (W = H) || decide (k % 2 = 0))
set_option maxRecDepth 100000 in
theorem pm_list : ((List.range 8).all fun k => (List.range 8).all fun W => (List.range 8).all fun H => !(fitK W H k && decide (k ≠ 1) && decide (k ≠ 3)) || decide (pmP W H k = pmM W H k)) = true := by kernel_rfl
set_option maxRecDepth 100000 in
theorem pm_turn : ([1, 2, 3, 4, 5, 6].all fun n => decide (szs (pmP n n 1) = szs (pmM n n 1)) && decide (szs (pmP n n 3) = szs (pmM n n 3))) = true := by kernel_rfl
set_option maxRecDepth 100000 in
theorem pm_good : ((List.range 8).all fun k => (List.range 8).all fun W => (List.range 8).all fun H => !(fitK W H k) || ((pmM W H k).all (fun i => decide (i < nn W H)) && (pmP W H k).all (fun i => decide (i < nn W H)) && decide ((pmP W H k).length = nn W H) && (szs (pmM W H k)).all (fun n => decide (1 ≤ n)) && decide ((szs (pmM W H k)).length ≤ 36))) = true := by kernel_rfl
theorem range_all {f : Nat → Bool} {n : Nat} (h : (List.range n).all f = true) {i : Nat} (hi : i < n) : f i = true := List.all_eq_true.1 h i (List.mem_range.2 hi)
theorem three_all {f : Nat → Nat → Nat → Bool} (h : ((List.range 8).all fun k => (List.range 8).all fun W => (List.range 8).all fun H => f k W H) = true) {k W H : Nat} (hk : k < 8) (hW : W < 8) (hH : H < 8) : f k W H = true :=
  range_all (range_all (range_all h hk) hW) hH
theorem sz_same {W H k : Nat} (hk : k < 8) (hW : W < 8) (hH : H < 8) (hf : fitK W H k = true) : szs (pmP W H k) = szs (pmM W H k) := by
  by_cases h13 : k = 1 ∨ k = 3
  · have hf' := hf
    unfold fitK at hf'
    simp only [Bool.and_eq_true, Bool.or_eq_true, decide_eq_true_eq] at hf'
    obtain ⟨⟨⟨h1, -⟩, h36⟩, h2⟩ := hf'
    obtain rfl : W = H := by omega
    have hW6 : W ≤ 6 := by
      rcases Nat.lt_or_ge 6 W with h | h
      · have : 7 * 7 ≤ nn W W := Nat.mul_le_mul h h
        omega
      · exact h
    have h := List.all_eq_true.1 pm_turn W (by simp only [List.mem_cons, List.not_mem_nil, or_false]; omega)
    rw [Bool.and_eq_true, decide_eq_true_eq, decide_eq_true_eq] at h
    rcases h13 with rfl | rfl
    · exact h.1
    · exact h.2
  · have h := three_all pm_list hk hW hH
    rw [hf, decide_eq_true (show k ≠ 1 by omega), decide_eq_true (show k ≠ 3 by omega)] at h
    rw [show pmP W H k = pmM W H k by simpa using h]
structure PmG (W H k : Nat) : Prop where
  m : ∀ i ∈ pmM W H k, i < nn W H
  p : ∀ i ∈ pmP W H k, i < nn W H
  pl : (pmP W H k).length = nn W H
  one : ∀ n ∈ szs (pmM W H k), 1 ≤ n
  le : (szs (pmM W H k)).length ≤ 36
theorem pm_ok {W H k : Nat} (hk : k < 8) (hW : W < 8) (hH : H < 8) (hf : fitK W H k = true) : PmG W H k := by
  have h := three_all pm_good hk hW hH
  rw [hf] at h
  simp only [Bool.not_true, Bool.false_or, Bool.and_eq_true, List.all_eq_true, decide_eq_true_eq] at h
  obtain ⟨⟨⟨⟨h1, h2⟩, h3⟩, h4⟩, h5⟩ := h
  exact ⟨h1, h2, h3, h4, h5⟩
/-! the ways to fill cycles -/
/-- So many trays with a walls and b balls are made of the first k cycles. -/
def dpK (L : List Nat) : Nat → Nat → Nat → Nat
  | 0, a, b => if a = 0 ∧ b = 0 then 1 else 0
  | k + 1, a, b => dpK L k a b + (if L.getD k 0 ≤ a then dpK L k (a - L.getD k 0) b else 0) + (if L.getD k 0 ≤ b then dpK L k a (b - L.getD k 0) else 0)
theorem dpK_le (L : List Nat) : ∀ k a b, dpK L k a b ≤ 3 ^ k
  | 0, a, b => by
    unfold dpK
    split <;> simp
  | k + 1, a, b => by
    have h1 := dpK_le L k a b
    have h2 := dpK_le L k (a - L.getD k 0) b
    have h3 := dpK_le L k a (b - L.getD k 0)
    unfold dpK
    rw [Nat.pow_succ]
    split <;> split <;> omega
theorem dpK_le36 (L : List Nat) {k : Nat} (hk : k ≤ 36) (a b : Nat) : dpK L k a b ≤ 150094635296999121 :=
  Nat.le_trans (dpK_le L k a b) (Nat.le_trans (Nat.pow_le_pow_right (by decide) hk) (by decide))
/-! the program's table -/
def ktT (L : List Nat) (A B k u v a b : Nat) : Nat := if a ≤ A ∧ b ≤ B then (if u ≤ a ∨ (a + 1 = u ∧ v ≤ b) then dpK L (k + 1) a b else dpK L k a b) else 0
def tabL (T : Nat → Nat → Nat) : List Value := (List.range 1369).map fun i => .int .i64 (T (i / 37) (i % 37) : Nat)
theorem tabL_length (T : Nat → Nat → Nat) : (tabL T).length = 1369 := by simp [tabL]
theorem tabL_get (T : Nat → Nat → Nat) {a b : Nat} (ha : a < 37) (hb : b < 37) : (tabL T)[a * 37 + b]? = some (.int .i64 (T a b : Nat)) := by
  unfold tabL
  rw [List.getElem?_map, List.getElem?_range (by omega)]
  have e1 : (a * 37 + b) / 37 = a := by omega
  have e2 : (a * 37 + b) % 37 = b := by omega
  simp only [Option.map_some, e1, e2]
theorem tabL_set (T U : Nat → Nat → Nat) {a b : Nat} (ha : a < 37) (hb : b < 37) (x : Nat) (h : ∀ c d, c < 37 → d < 37 → U c d = if c = a ∧ d = b then x else T c d) : (tabL T).set (a * 37 + b) (.int .i64 (x : Nat)) = tabL U := by
  apply List.ext_getElem?
  intro i
  rw [List.getElem?_set]
  by_cases hi : i < 1369
  · have hc : i / 37 < 37 := by omega
    have hd : i % 37 < 37 := by omega
    unfold tabL
    by_cases e : a * 37 + b = i
    · rw [if_pos e, if_pos (by simp; omega), List.getElem?_map, List.getElem?_range hi]
      have e1 : i / 37 = a := by omega
      have e2 : i % 37 = b := by omega
      simp only [Option.map_some]
      rw [h _ _ hc hd, if_pos ⟨e1, e2⟩]
    · rw [if_neg e, List.getElem?_map, List.getElem?_map, List.getElem?_range hi]
      simp only [Option.map_some]
      rw [h _ _ hc hd, if_neg (by omega)]
  · rw [if_neg (by omega), List.getElem?_eq_none (by rw [tabL_length]; omega), List.getElem?_eq_none (by rw [tabL_length]; omega)]
theorem tabL_congr {T U : Nat → Nat → Nat} (h : ∀ c d, c < 37 → d < 37 → T c d = U c d) : tabL T = tabL U := by
  unfold tabL
  refine List.map_congr_left fun i hi => ?_
  have := List.mem_range.1 hi
  rw [h _ _ (by omega) (by omega)]
/-- The next cell of the table: nothing but it turns. -/
theorem ktT_next (L : List Nat) {A B k a b : Nat} (ha : a ≤ A) (hb : b ≤ B) (c d : Nat) : ktT L A B k (a + 1) b c d = if c = a ∧ d = b then dpK L (k + 1) a b else ktT L A B k (a + 1) (b + 1) c d := by
  unfold ktT
  by_cases e : c = a ∧ d = b
  · obtain ⟨rfl, rfl⟩ := e
    rw [if_pos ⟨ha, hb⟩, if_pos (Or.inr ⟨rfl, Nat.le_refl _⟩), if_pos ⟨rfl, rfl⟩]
  · rw [if_neg e]
    by_cases h1 : c ≤ A ∧ d ≤ B
    · rw [if_pos h1, if_pos h1]
      by_cases h2 : a + 1 ≤ c ∨ (c + 1 = a + 1 ∧ b ≤ d)
      · rw [if_pos h2, if_pos (by omega)]
      · rw [if_neg h2, if_neg (by omega)]
    · rw [if_neg h1, if_neg h1]
theorem ktT_row (L : List Nat) (A B k u c d : Nat) : ktT L A B k (u + 1) 0 c d = ktT L A B k u (B + 1) c d := by
  unfold ktT
  by_cases h1 : c ≤ A ∧ d ≤ B
  · rw [if_pos h1, if_pos h1]
    by_cases h2 : u + 1 ≤ c ∨ (c + 1 = u + 1 ∧ 0 ≤ d)
    · rw [if_pos h2, if_pos (by omega)]
    · rw [if_neg h2, if_neg (by omega)]
  · rw [if_neg h1, if_neg h1]
theorem ktT_end (L : List Nat) (A B k c d : Nat) : ktT L A B k 0 (B + 1) c d = ktT L A B (k + 1) (A + 1) (B + 1) c d := by
  unfold ktT
  by_cases h1 : c ≤ A ∧ d ≤ B
  · rw [if_pos h1, if_pos h1, if_pos (by omega), if_neg (by omega)]
  · rw [if_neg h1, if_neg h1]
theorem ktT_old (L : List Nat) {A B k u v a b : Nat} (ha : a ≤ A) (hb : b ≤ B) (h : ¬ (u ≤ a ∨ (a + 1 = u ∧ v ≤ b))) : ktT L A B k u v a b = dpK L k a b := by
  unfold ktT
  rw [if_pos ⟨ha, hb⟩, if_neg h]
theorem ktT_zero (L : List Nat) (A B c d : Nat) : ktT L A B 0 (A + 1) (B + 1) c d = if c = 0 ∧ d = 0 then 1 else 0 := by
  unfold ktT dpK
  by_cases h1 : c ≤ A ∧ d ≤ B
  · rw [if_pos h1, if_neg (by omega)]
  · rw [if_neg h1, if_neg (by omega)]
/-! the model's rows -/
def mdF (L : List Nat) (B k i j x : Nat) : Int := ((if x / (B + 1) < i ∨ (x / (B + 1) = i ∧ x % (B + 1) < j) then dpK L (k + 1) (x / (B + 1)) (x % (B + 1)) else dpK L k (x / (B + 1)) (x % (B + 1)) : Nat) : Int)
def mdT (L : List Nat) (A B k i j : Nat) : List Int := (List.range ((A + 1) * (B + 1))).map (mdF L B k i j)
theorem mdT_length (L : List Nat) (A B k i j : Nat) : (mdT L A B k i j).length = (A + 1) * (B + 1) := by simp [mdT]
theorem md_pos {A B a b : Nat} (ha : a ≤ A) (hb : b ≤ B) : a * (B + 1) + b < (A + 1) * (B + 1) := by
  have : (a + 1) * (B + 1) ≤ (A + 1) * (B + 1) := Nat.mul_le_mul_right _ (by omega)
  rw [Nat.succ_mul] at this
  omega
theorem md_div {B a b : Nat} (hb : b ≤ B) : (a * (B + 1) + b) / (B + 1) = a ∧ (a * (B + 1) + b) % (B + 1) = b := by
  constructor
  · rw [Nat.mul_comm, Nat.mul_add_div (by omega), Nat.div_eq_of_lt (by omega), Nat.add_zero]
  · rw [Nat.mul_comm, Nat.mul_add_mod, Nat.mod_eq_of_lt (by omega)]
theorem mdT_at (L : List Nat) {A B k i j a b : Nat} (ha : a ≤ A) (hb : b ≤ B) (h : ¬ (a < i ∨ (a = i ∧ b < j))) : gi (mdT L A B k i j) (a * (B + 1) + b) = (dpK L k a b : Nat) := by
  unfold gi mdT
  rw [List.getD_eq_getElem?_getD, List.getElem?_map, List.getElem?_range (md_pos ha hb)]
  simp only [Option.map_some, Option.getD_some]
  unfold mdF
  rw [(md_div hb).1, (md_div hb).2, if_neg h]
theorem mdT_set (L : List Nat) {A B k i j : Nat} (hi : i ≤ A) (hj : j ≤ B) : (mdT L A B k i j).set (i * (B + 1) + j) (dpK L (k + 1) i j : Nat) = mdT L A B k i (j + 1) := by
  apply List.ext_getElem?
  intro x
  rw [List.getElem?_set]
  have hm := md_div (a := i) (b := j) (B := B) hj
  by_cases hx : x < (A + 1) * (B + 1)
  · unfold mdT
    by_cases e : i * (B + 1) + j = x
    · rw [if_pos e, if_pos (by simpa [mdT] using md_pos hi hj), List.getElem?_map, List.getElem?_range hx]
      simp only [Option.map_some]
      unfold mdF
      rw [← e, hm.1, hm.2, if_pos (.inr ⟨rfl, Nat.lt_succ_self _⟩)]
    · rw [if_neg e, List.getElem?_map, List.getElem?_map, List.getElem?_range hx]
      simp only [Option.map_some]
      unfold mdF
      have h0 : x = x / (B + 1) * (B + 1) + x % (B + 1) := by rw [Nat.mul_comm]; exact (Nat.div_add_mod x (B + 1)).symm
      by_cases h1 : x / (B + 1) < i ∨ (x / (B + 1) = i ∧ x % (B + 1) < j)
      · rw [if_pos h1, if_pos (by omega)]
      · rw [if_neg h1, if_neg]
        rintro (h2 | ⟨h2, h3⟩)
        · exact h1 (.inl h2)
        · refine e ?_
          have h4 : x % (B + 1) = j := by omega
          rw [h2, h4] at h0
          exact h0.symm
  · rw [if_neg (by have := md_pos hi hj; omega), List.getElem?_eq_none (by rw [mdT_length]; omega), List.getElem?_eq_none (by rw [mdT_length]; omega)]
theorem mdT_row (L : List Nat) (A B k i : Nat) : mdT L A B k i (B + 1) = mdT L A B k (i + 1) 0 := by
  unfold mdT
  refine List.map_congr_left fun x _ => ?_
  unfold mdF
  have h0 : x % (B + 1) < B + 1 := Nat.mod_lt _ (by omega)
  by_cases h1 : x / (B + 1) < i ∨ (x / (B + 1) = i ∧ x % (B + 1) < B + 1)
  · rw [if_pos h1, if_pos (by omega)]
  · rw [if_neg h1, if_neg (by omega)]
theorem mdT_end (L : List Nat) (A B k : Nat) : mdT L A B k (A + 1) 0 = mdT L A B (k + 1) 0 0 := by
  unfold mdT
  refine List.map_congr_left fun x hx => ?_
  have hx := List.mem_range.1 hx
  have h0 : x / (B + 1) < A + 1 := Nat.div_lt_of_lt_mul (by rw [Nat.mul_comm]; exact hx)
  unfold mdF
  rw [if_pos (.inl h0), if_neg (by rintro (h | ⟨-, h⟩) <;> exact absurd h (Nat.not_lt_zero _))]
theorem mdT_zero (L : List Nat) (A B : Nat) : ((List.range ((A + 1) * (B + 1))).map fun _ => (0 : Int)).set 0 1 = mdT L A B 0 0 0 := by
  apply List.ext_getElem?
  intro x
  rw [List.getElem?_set]
  have hp : 0 < (A + 1) * (B + 1) := Nat.mul_pos (by omega) (by omega)
  by_cases hx : x < (A + 1) * (B + 1)
  · unfold mdT
    rw [List.getElem?_map, List.getElem?_map, List.getElem?_range hx]
    simp only [Option.map_some]
    unfold mdF dpK
    have h0 : x = x / (B + 1) * (B + 1) + x % (B + 1) := by rw [Nat.mul_comm]; exact (Nat.div_add_mod x (B + 1)).symm
    by_cases e : 0 = x
    · subst e
      rw [if_pos rfl, if_pos (by simp), if_neg (by simp)]
      simp
    · rw [if_neg e, if_neg (by rintro (h | ⟨-, h⟩) <;> exact absurd h (Nat.not_lt_zero _)), if_neg]
      · rfl
      · rintro ⟨h1, h2⟩
        rw [h1, h2] at h0
        omega
  · rw [if_neg (by omega), List.getElem?_eq_none (by simp; omega), List.getElem?_eq_none (by rw [mdT_length]; omega)]
end Go.Proofs.Ytmjmjibokombiaa
