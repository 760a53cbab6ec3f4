/-
  The shape of a piece, as plain maths: a piece alone, cropped, with free cells around it.
-/
import Derived.Test.YtagoipongdnegaaDoorFormK
import Derived.Test.YtagoipongdnegaaDoorCropB
namespace Go.Proofs.YtagoipongdnegaaDoor
open Go.RowKit
/-- ReplaceAll of one byte. -/
def rpB (b : UInt8) : UInt8 := if b = 35 then 46 else b
theorem index_cons1 {b : UInt8} {l : List UInt8} (h : b ≠ 35) {i : Nat} (e : Lib.index l [35] = i) : Lib.index (b :: l) [35] = ((i + 1 : Nat) : Int) := by
  unfold Lib.index
  have hp : ([35] : List UInt8).isPrefixOf (b :: l) = false := by simp [List.isPrefixOf, Ne.symm h]
  rw [hp, e]
  have : ((i : Int) == -1) = false := by rw [beq_eq_false_iff_ne]; omega
  rw [this]
  simp
theorem rep_one : ∀ l : List UInt8, Lib.replaceK [35] [46] (Lib.count l [35]) l = l.map rpB
  | [] => by rw [Lib.count_one]; rfl
  | b :: l => by
    have ih := rep_one l
    by_cases h : b = 35
    · subst h
      rw [Lib.count_cons_eq, Nat.add_comm]
      rw [Lib.replaceK_hit _ _ _ _ 0 (by unfold Lib.index; simp [List.isPrefixOf])]
      show [] ++ [46] ++ Lib.replaceK [35] [46] (Lib.count l [35]) l = _
      rw [ih]
      rfl
    · rw [Lib.count_cons_ne b 35 l h]
      have hb : rpB b = b := by unfold rpB; rw [if_neg h]
      rw [List.map_cons, hb]
      cases hc : Lib.count l [35] with
      | zero =>
        rw [hc] at ih
        rw [← ih]
        rfl
      | succ k =>
        rw [hc] at ih
        obtain ⟨i, hi⟩ := Lib.index_of_count (s := l) (old := [35]) (by omega)
        rw [Lib.replaceK_hit _ _ _ _ (i + 1) (index_cons1 h hi), ← ih, Lib.replaceK_hit _ _ _ _ i hi]
        rfl
theorem rep_all (l : List UInt8) : Lib.replaceAll l [35] [46] = l.map rpB := by
  unfold Lib.replaceAll Lib.replace
  rw [if_neg (by decide)]
  have e : Lib.replaceNum l [35] (-1) = Lib.count l [35] := by
    unfold Lib.replaceNum
    rw [if_pos (.inl (by decide))]
  rw [e]
  exact rep_one l
theorem join_rep : ∀ p : List (List UInt8), (Lib.join p [47]).map rpB = Lib.join (p.map fun r => r.map rpB) [47]
  | [] => rfl
  | [r] => by rw [Lib.join_one]; show _ = Lib.join [r.map rpB] [47]; rw [Lib.join_one]
  | r :: q :: p => by
    have ih := join_rep (q :: p)
    rw [join_cons2 r (q :: p) (by simp), List.map_append, List.map_append, ih]
    show _ = Lib.join (r.map rpB :: (q :: p).map fun r => r.map rpB) [47]
    rw [join_cons2 _ _ (by simp)]
    rfl
theorem rp_at (c : List UInt8) (j : Nat) : at0 (c.map rpB) j = rpB (at0 c j) := by
  unfold at0
  simp only [List.getD_eq_getElem?_getD, List.getElem?_map]
  cases c[j]? with
  | none => rfl
  | some b => rfl
theorem txt_rep (W : Nat) (c : List UInt8) (H : Nat) : (txtL W c H).map rpB = txtL W (c.map rpB) H := by
  unfold txtL
  rw [join_rep]
  congr 1
  unfold rowsL
  rw [List.map_map]
  apply List.map_congr_left
  intro y _
  show (rowL W c y).map rpB = rowL W (c.map rpB) y
  unfold rowL
  rw [List.map_map]
  apply List.map_congr_left
  intro x _
  exact (rp_at c _).symm
/-- Rows and their cells. -/
theorem flat_rows {W : Nat} : ∀ {H : Nat} {c : List UInt8}, c.length = nn W H → (rowsL W c H).flatten = c := by
  intro H c hl
  have h1 : ((rowsL W c H).flatten).length = nn W H := by
    rw [flatten_len (w := W) (by
      intro r hr
      unfold rowsL at hr
      obtain ⟨y, _, rfl⟩ := List.mem_map.1 hr
      exact rowL_length _ _ _), rowsL_length]
    rfl
  have e := rows_flatten (p := rowsL W c H) (w := W) (by
    intro r hr
    unfold rowsL at hr
    obtain ⟨y, _, rfl⟩ := List.mem_map.1 hr
    exact rowL_length _ _ _)
  rw [rowsL_length] at e
  refine list_ext (by rw [h1, hl]) fun i hi => ?_
  rw [h1] at hi
  have hW : 0 < W := by
    rcases Nat.eq_zero_or_pos W with h | h
    · subst h; unfold nn at hi; omega
    · exact h
  have hy : i / W < H := row_lt hi
  have hx : i % W < W := Nat.mod_lt _ hW
  have e1 := rowsL_get W (rowsL W c H).flatten H (i / W) hy
  rw [e, rowsL_get W c H (i / W) hy] at e1
  have e2 := Option.some.inj e1
  have e3 : nn W (i / W) + i % W = i := by unfold nn; exact Nat.div_add_mod i W
  have a := rows_at (c := (rowsL W c H).flatten) (y := i / W) hx
  have b := rows_at (c := c) (y := i / W) hx
  rw [e3] at a b
  rw [← a, ← b, e2]
/-- A grid of free cells and plain balls, or of walls and plain balls, is that of its text. -/
theorem rd_plain {W H : Nat} {c : List UInt8} (hw1 : 1 ≤ W) (hw7 : W ≤ 7) (hh1 : 1 ≤ H) (hh7 : H ≤ 7) (h36 : nn W H ≤ 36) (hl : c.length = nn W H) (hc : ∀ i, i < c.length → at0 c i = 35 ∨ at0 c i = 46 ∨ at0 c i = 111) :
    parse (txtL W c H) = some ⟨W, H, c⟩ := by
  have hcell : ∀ i, i < c.length → isCellB (at0 c i) = true := fun i hi => by rcases hc i hi with h | h | h <;> rw [h] <;> decide
  have hp := pieces_txt hh1 hl (cell_plain hcell)
  have hf := flat_rows hl
  have ok : OkR (pieces (txtL W c H)) W := by
    rw [hp]
    refine ⟨hw1, hw7, by rw [rowsL_length]; exact hh1, by rw [rowsL_length]; exact hh7, by rw [rowsL_length]; exact h36, ?_, ?_, ?_⟩
    · intro r hr
      unfold rowsL at hr
      obtain ⟨y, _, rfl⟩ := List.mem_map.1 hr
      exact rowL_length _ _ _
    · rw [hf]
      intro b hb
      obtain ⟨i, hi, e⟩ := List.getElem_of_mem hb
      have := hcell i hi
      unfold at0 at this
      rw [List.getD_eq_getElem?_getD, List.getElem?_eq_getElem hi, e] at this
      exact this
    · rw [hf]
      refine once_of fun i j hj hi => ?_
      unfold dupAt
      have := hc i hi
      unfold at0 at this
      rcases this with h | h | h <;> rw [h] <;> simp
  rw [parse_of ok, hp, rowsL_length, hf]
/-- The places with a property, as the list has them. -/
def paC (R : List Int) (N : Nat) : List UInt8 := genC N fun j => if 0 ≤ gi R j then 111 else 35
theorem paC_at {R : List Int} {N j : Nat} (h : j < N) : at0 (paC R N) j = if 0 ≤ gi R j then 111 else 35 := by
  unfold paC; rw [genC_at, if_pos h]
def fdL (W : Nat) (L : List Int) : Nat := L.foldl (fun a x => min a (x.toNat % W)) W
def fdR (W : Nat) (L : List Int) : Nat := L.foldl (fun a x => max a (x.toNat % W)) 0
def fdT (W H : Nat) (L : List Int) : Nat := L.foldl (fun a x => min a (x.toNat / W)) H
def fdB (W : Nat) (L : List Int) : Nat := L.foldl (fun a x => max a (x.toNat / W)) 0
theorem fd_snoc {α : Type} (f : α → Int → α) (z : α) (L : List Int) (x : Int) : (L ++ [x]).foldl f z = f (L.foldl f z) x := by rw [List.foldl_append]; rfl
theorem cr_fold {W H N : Nat} (R : List Int) : ∀ k, k ≤ N → crL W (paC R N) k = fdL W (posTo R k) ∧ crT W H (paC R N) k = fdT W H (posTo R k) ∧
    ((posTo R k = [] ∧ crR W (paC R N) k = 0 ∧ crB W (paC R N) k = 0) ∨ (posTo R k ≠ [] ∧ crR W (paC R N) k = fdR W (posTo R k) + 1 ∧ crB W (paC R N) k = fdB W (posTo R k) + 1)) := by
  intro k
  induction k with
  | zero => intro _; exact ⟨rfl, rfl, .inl ⟨rfl, rfl, rfl⟩⟩
  | succ k ih =>
    intro hk
    obtain ⟨a1, a2, a3⟩ := ih (by omega)
    have e := paC_at (R := R) (N := N) (j := k) (by omega)
    by_cases h : 0 ≤ gi R k
    · rw [if_pos h] at e
      have hn : ¬ at0 (paC R N) k = 35 := by rw [e]; decide
      have hp : posTo R (k + 1) = posTo R k ++ [(k : Int)] := by rw [posTo, if_pos h]
      rw [crL, if_neg hn, crT, if_neg hn, crR, if_neg hn, crB, if_neg hn, hp]
      unfold fdL fdT fdR fdB at *
      rw [fd_snoc, fd_snoc, fd_snoc, fd_snoc, a1, a2, Int.toNat_natCast]
      refine ⟨rfl, rfl, .inr ⟨by simp, ?_, ?_⟩⟩
      · rcases a3 with ⟨b1, b2, b3⟩ | ⟨b1, b2, b3⟩
        · rw [b1, b2]; exact (Nat.zero_max _).trans (congrArg (· + 1) (Nat.zero_max _).symm)
        · rw [b2]; omega
      · rcases a3 with ⟨b1, b2, b3⟩ | ⟨b1, b2, b3⟩
        · rw [b1, b3]; exact (Nat.zero_max _).trans (congrArg (· + 1) (Nat.zero_max _).symm)
        · rw [b3]; omega
    · rw [if_neg h] at e
      have hp : posTo R (k + 1) = posTo R k := by rw [posTo, if_neg h]
      rw [crL, if_pos e, crT, if_pos e, crR, if_pos e, crB, if_pos e, hp]
      exact ⟨a1, a2, a3⟩
/-- What is in the piece is in the box. -/
theorem cr_in {W H : Nat} {c : List UInt8} : ∀ k, ∀ i, i < k → at0 c i ≠ 35 → crL W c k ≤ i % W ∧ i % W < crR W c k ∧ crT W H c k ≤ i / W ∧ i / W < crB W c k := by
  intro k
  induction k with
  | zero => intro i h; exact absurd h (Nat.not_lt_zero _)
  | succ k ih =>
    intro i hi hc
    by_cases hk : i = k
    · subst hk
      rw [crL, if_neg hc, crR, if_neg hc, crT, if_neg hc, crB, if_neg hc]
      omega
    · obtain ⟨a, b, d, e⟩ := ih i (by omega) hc
      by_cases h : at0 c k = 35
      · rw [crL, if_pos h, crR, if_pos h, crT, if_pos h, crB, if_pos h]
        exact ⟨a, b, d, e⟩
      · rw [crL, if_neg h, crR, if_neg h, crT, if_neg h, crB, if_neg h]
        omega
/-- Balls put into cells. -/
def filL (L : List Int) (c : List UInt8) : List UInt8 := L.foldl (fun c x => c.set x.toNat 111) c
theorem filL_length (L : List Int) : ∀ c, (filL L c).length = c.length := by
  unfold filL
  induction L with
  | nil => intro c; rfl
  | cons x L ih => intro c; rw [List.foldl_cons, ih, List.length_set]
theorem fil_at {R : List Int} {c : List UInt8} : ∀ n, n ≤ c.length → ∀ j, at0 (filL (posTo R n) c) j = if j < n ∧ 0 ≤ gi R j then 111 else at0 c j := by
  intro n
  induction n with
  | zero => intro _ j; rw [if_neg (by omega)]; rfl
  | succ n ih =>
    intro hn j
    have ih := ih (by omega)
    by_cases h : 0 ≤ gi R n
    · rw [posTo, if_pos h]
      unfold filL at *
      rw [fd_snoc, Int.toNat_natCast, at0_set _ _ _ _ (by have := filL_length (posTo R n) c; unfold filL at this; omega)]
      by_cases hj : n = j
      · subst hj
        rw [if_pos rfl, if_pos ⟨by omega, h⟩]
      · rw [if_neg hj, ih]
        by_cases h2 : j < n ∧ 0 ≤ gi R j
        · rw [if_pos h2, if_pos ⟨by omega, h2.2⟩]
        · rw [if_neg h2, if_neg (by omega)]
    · rw [posTo, if_neg h, ih]
      by_cases h2 : j < n ∧ 0 ≤ gi R j
      · rw [if_pos h2, if_pos ⟨by omega, h2.2⟩]
      · have : ¬ (j < n + 1 ∧ 0 ≤ gi R j) := fun h3 => by
          by_cases hj : j = n
          · subst hj; exact h h3.2
          · exact h2 ⟨by omega, h3.2⟩
        rw [if_neg h2, if_neg this]
theorem fil_all (R : List Int) (N : Nat) : filL (posTo R N) (genC N fun _ => 35) = paC R N := by
  refine list_ext (by rw [filL_length, genC_length]; unfold paC; rw [genC_length]) fun i hi => ?_
  rw [filL_length, genC_length] at hi
  rw [fil_at N (by rw [genC_length]; exact Nat.le_refl _), paC_at hi, genC_at, if_pos hi]
  by_cases h : 0 ≤ gi R i
  · rw [if_pos ⟨hi, h⟩, if_pos h]
  · rw [if_neg (by omega), if_neg h]
/-- The box: v columns from l on, m rows from t on. -/
def bxC (W : Nat) (R : List Int) (l v t m : Nat) : List UInt8 := genC (nn v m) fun q => if 0 ≤ gi R (nn W (t + q / v) + (l + q % v)) then 111 else 46
theorem bx_crop {W N l v t m : Nat} {R : List Int} (hN : ∀ y x, y < m → x < v → nn W (t + y) + (l + x) < N) : (crC W (paC R N) l v t m).map rpB = bxC W R l v t m := by
  refine list_ext (by rw [List.length_map, crC_length]; unfold bxC; rw [genC_length]) fun q hq => ?_
  rw [List.length_map, crC_length] at hq
  have hv : 0 < v := by
    rcases Nat.eq_zero_or_pos v with h | h
    · subst h; unfold nn at hq; omega
    · exact h
  have hy : q / v < m := row_lt hq
  have hx : q % v < v := Nat.mod_lt _ hv
  have e3 : nn v (q / v) + q % v = q := by unfold nn; exact Nat.div_add_mod q v
  have a := rows_at (c := crC W (paC R N) l v t m) (y := q / v) hx
  rw [e3, cr_row _ _ _ _ _ _ _ hy] at a
  have b := seg_get (paC R N) (nn W (t + q / v) + l) v (q % v) hx
  have b2 : at0 (seg (paC R N) (nn W (t + q / v) + l) v) (q % v) = at0 (paC R N) (nn W (t + q / v) + (l + q % v)) := by
    rw [show at0 (seg (paC R N) (nn W (t + q / v) + l) v) (q % v) = ((seg (paC R N) (nn W (t + q / v) + l) v)[q % v]?).getD 0 from List.getD_eq_getElem?_getD, b, Nat.add_assoc]
    rfl
  rw [rp_at, ← a, b2, paC_at (hN _ _ hy hx)]
  unfold bxC
  rw [genC_at, if_pos hq]
  split <;> rfl
/-- The model's way to it. -/
def bxL (W l v t : Nat) (L : List Int) (c : List UInt8) : List UInt8 := L.foldl (fun c x => c.set (nn v (x.toNat / W - t) + (x.toNat % W - l)) 111) c
theorem bxL_length (W l v t : Nat) (L : List Int) : ∀ c, (bxL W l v t L c).length = c.length := by
  unfold bxL
  induction L with
  | nil => intro c; rfl
  | cons x L ih => intro c; rw [List.foldl_cons, ih, List.length_set]
theorem bxL_at {W l v t m N : Nat} {R : List Int} {c : List UInt8} (hW : l + v ≤ W) (hl : c.length = nn v m) (hin : ∀ i, i < N → 0 ≤ gi R i → l ≤ i % W ∧ i % W < l + v ∧ t ≤ i / W ∧ i / W < t + m) :
    ∀ n, n ≤ N → ∀ q, q < nn v m → at0 (bxL W l v t (posTo R n) c) q = if nn W (t + q / v) + (l + q % v) < n ∧ 0 ≤ gi R (nn W (t + q / v) + (l + q % v)) then 111 else at0 c q := by
  intro n
  induction n with
  | zero => intro _ q _; rw [if_neg (by omega)]; rfl
  | succ n ih =>
    intro hn q hq
    have ih := ih (by omega) q hq
    have hv : 0 < v := by
      rcases Nat.eq_zero_or_pos v with h | h
      · subst h; unfold nn at hq; omega
      · exact h
    have hx : q % v < v := Nat.mod_lt _ hv
    have e3 : nn v (q / v) + q % v = q := by unfold nn; exact Nat.div_add_mod q v
    by_cases h : 0 ≤ gi R n
    · obtain ⟨i1, i2, i3, i4⟩ := hin n (by omega) h
      have n1 : nn W (n / W) + n % W = n := by unfold nn; exact Nat.div_add_mod n W
      rw [posTo, if_pos h]
      unfold bxL at *
      rw [fd_snoc, Int.toNat_natCast]
      have hlt : nn v (n / W - t) + (n % W - l) < nn v m := by
        have := nn_row (W := v) (y := n / W - t) (H := m) (by omega)
        omega
      rw [at0_set _ _ _ _ (by have := bxL_length W l v t (posTo R n) c; unfold bxL at this; omega)]
      by_cases hq2 : nn v (n / W - t) + (n % W - l) = q
      · have d1 : q / v = n / W - t := by rw [← hq2]; unfold nn; rw [Nat.mul_add_div (by omega), Nat.div_eq_of_lt (show n % W - l < v by omega), Nat.add_zero]
        have d2 : q % v = n % W - l := by rw [← hq2]; unfold nn; rw [Nat.mul_add_mod]; exact Nat.mod_eq_of_lt (by omega)
        have e : nn W (t + q / v) + (l + q % v) = n := by rw [d1, d2, show t + (n / W - t) = n / W by omega, show l + (n % W - l) = n % W by omega, n1]
        rw [if_pos hq2, e, if_pos ⟨by omega, h⟩]
      · have e : nn W (t + q / v) + (l + q % v) ≠ n := fun e => hq2 (by
          have d1 : n / W = t + q / v := by rw [← e]; unfold nn; rw [Nat.mul_add_div (by omega), Nat.div_eq_of_lt (show l + q % v < W by omega), Nat.add_zero]
          have d2 : n % W = l + q % v := by rw [← e]; unfold nn; rw [Nat.mul_add_mod]; exact Nat.mod_eq_of_lt (by omega)
          rw [d1, d2, show t + q / v - t = q / v by omega, show l + q % v - l = q % v by omega, e3])
        rw [if_neg hq2, ih]
        by_cases h2 : nn W (t + q / v) + (l + q % v) < n ∧ 0 ≤ gi R (nn W (t + q / v) + (l + q % v))
        · rw [if_pos h2, if_pos ⟨by omega, h2.2⟩]
        · rw [if_neg h2, if_neg fun h3 => h2 ⟨by omega, h3.2⟩]
    · rw [posTo, if_neg h, ih]
      by_cases h2 : nn W (t + q / v) + (l + q % v) < n ∧ 0 ≤ gi R (nn W (t + q / v) + (l + q % v))
      · rw [if_pos h2, if_pos ⟨by omega, h2.2⟩]
      · rw [if_neg h2, if_neg fun h3 => h2 ⟨by
          rcases Nat.lt_or_ge (nn W (t + q / v) + (l + q % v)) n with h4 | h4
          · exact h4
          · have : nn W (t + q / v) + (l + q % v) = n := by omega
            rw [this] at h3
            exact absurd h3.2 h, h3.2⟩]
end Go.Proofs.YtagoipongdnegaaDoor
