/-
  Plain mathematics: a tray's text is the text of its grid, and different grids have different texts.
-/
import Derived.Test.YthjkeohnjggmiaaDoorText
import Derived.Test.YthjkeohnjggmiaaDoorScan
import Derived.Test.YthjkeohnjggmiaaDoorMir
namespace Go.Proofs.YthjkeohnjggmiaaDoor
theorem join_cons2 (x : List UInt8) (xs : List (List UInt8)) (h : xs ≠ []) (sep : List UInt8) : Lib.join (x :: xs) sep = x ++ (sep ++ Lib.join xs sep) := by
  cases xs with
  | nil => exact absurd rfl h
  | cons y ys =>
    rw [Lib.join_cons, Lib.join_cons]
    unfold Lib.joinTail
    simp
theorem join_pieces (l : List UInt8) : Lib.join (pieces l) [47] = l := by
  induction l with
  | nil => rfl
  | cons c r ih =>
    have hp := pieces_ne r
    unfold pieces
    split
    · rename_i hc
      rw [join_cons2 _ _ hp, ih, hc]
      rfl
    · cases h : pieces r with
      | nil => exact absurd h hp
      | cons p q =>
        rw [h] at ih
        simp only [List.headD_cons, List.tail_cons]
        rw [Lib.join_cons] at ih ⊢
        rw [List.cons_append, ih]
theorem at0_append_left {c d : List UInt8} {i : Nat} (h : i < c.length) : at0 (c ++ d) i = at0 c i := by
  unfold at0; simp only [List.getD]; rw [List.getElem?_append_left h]
theorem at0_append_right {c d : List UInt8} {i : Nat} (h : c.length ≤ i) : at0 (c ++ d) i = at0 d (i - c.length) := by
  unfold at0; simp only [List.getD]; rw [List.getElem?_append_right h]
theorem row_self {r : List UInt8} {w : Nat} (h : r.length = w) (d : List UInt8) : rowL w (r ++ d) 0 = r := by
  subst h
  apply list_ext (rowL_length _ _ _)
  intro i hi
  rw [rowL_length] at hi
  have e := rowL_get r.length (r ++ d) 0 i hi
  have e2 : at0 (rowL r.length (r ++ d) 0) i = at0 (r ++ d) (nn r.length 0 + i) := by
    unfold at0 at e ⊢
    simp only [List.getD] at e ⊢
    rw [e]
    rfl
  rw [e2, show nn r.length 0 = 0 from Nat.mul_zero _, Nat.zero_add, at0_append_left hi]
theorem row_next {r : List UInt8} {w : Nat} (h : r.length = w) (d : List UInt8) (y : Nat) : rowL w (r ++ d) (y + 1) = rowL w d y := by
  unfold rowL
  apply List.map_congr_left
  intro x _
  have e : nn w (y + 1) + x = r.length + (nn w y + x) := by unfold nn; rw [Nat.mul_succ, h]; omega
  rw [e, at0_append_right (by omega)]
  congr 1
  omega
theorem rows_flatten {p : List (List UInt8)} {w : Nat} (h : ∀ r ∈ p, r.length = w) : rowsL w p.flatten p.length = p := by
  induction p with
  | nil => rfl
  | cons r p ih =>
    have hr := h r (by simp)
    have ih := ih (fun q hq => h q (by simp [hq]))
    unfold rowsL at ih ⊢
    rw [List.length_cons, List.range_succ_eq_map, List.map_cons, List.map_map, List.flatten_cons, row_self hr]
    congr 1
    refine Eq.trans (List.map_congr_left fun y _ => ?_) ih
    exact row_next hr _ y
/-- A tray's text is that of its grid. -/
theorem parse_text {l : List UInt8} {g : Grid} (h : parse l = some g) : txtL g.w g.c g.h = l := by
  obtain ⟨a, b, c⟩ := parse_some h
  unfold txtL
  rw [b, c, rows_flatten a.rows, join_pieces]
theorem pieces_plain {r : List UInt8} (h : ∀ b ∈ r, b ≠ 47) : pieces r = [r] := by
  induction r with
  | nil => rfl
  | cons b r ih =>
    rw [pieces, if_neg (h b (by simp)), ih (fun c hc => h c (by simp [hc]))]
    rfl
theorem pieces_join {p : List (List UInt8)} (hp : p ≠ []) (h : ∀ r ∈ p, ∀ b ∈ r, b ≠ 47) : pieces (Lib.join p [47]) = p := by
  induction p with
  | nil => exact absurd rfl hp
  | cons r p ih =>
    cases p with
    | nil => rw [Lib.join_one]; exact pieces_plain (h r (by simp))
    | cons q p =>
      rw [join_cons2 r (q :: p) (by simp)]
      show pieces (r ++ 47 :: Lib.join (q :: p) [47]) = _
      rw [pieces_slash, ih (by simp) (fun x hx => h x (by simp [hx])), pieces_plain (h r (by simp))]
      rfl
/-- No cell is a slash. -/
def Plain (c : List UInt8) : Prop := ∀ i, i < c.length → at0 c i ≠ 47
theorem rows_plain {W H : Nat} {c : List UInt8} (hl : c.length = nn W H) (h : Plain c) : ∀ r ∈ rowsL W c H, ∀ b ∈ r, b ≠ 47 := by
  intro r hr b hb
  unfold rowsL at hr
  obtain ⟨y, hy, rfl⟩ := List.mem_map.1 hr
  unfold rowL at hb
  obtain ⟨x, hx, rfl⟩ := List.mem_map.1 hb
  have := nn_row (W := W) (List.mem_range.1 hy)
  have := List.mem_range.1 hx
  exact h _ (by omega)
theorem rows_ne {W H : Nat} {c : List UInt8} (h : 1 ≤ H) : rowsL W c H ≠ [] := by
  intro e
  have := rowsL_length W c H
  rw [e] at this
  simp at this
  omega
theorem pieces_txt {W H : Nat} {c : List UInt8} (h1 : 1 ≤ H) (hl : c.length = nn W H) (h : Plain c) : pieces (txtL W c H) = rowsL W c H :=
  pieces_join (rows_ne h1) (rows_plain hl h)
theorem rows_at {W : Nat} {c : List UInt8} {y x : Nat} (hx : x < W) : at0 (rowL W c y) x = at0 c (nn W y + x) := by
  have e := rowL_get W c y x hx
  unfold at0 at e ⊢
  simp only [List.getD] at e ⊢
  rw [e]
  rfl
/-- Different grids have different texts. -/
theorem txt_inj {W H W' H' : Nat} {c c' : List UInt8} (hW : 1 ≤ W) (hH : 1 ≤ H) (hH' : 1 ≤ H') (hl : c.length = nn W H) (hl' : c'.length = nn W' H') (h : Plain c) (h' : Plain c') (e : txtL W c H = txtL W' c' H') : W = W' ∧ H = H' ∧ c = c' := by
  have er : rowsL W c H = rowsL W' c' H' := by rw [← pieces_txt hH hl h, ← pieces_txt hH' hl' h', e]
  have eH : H = H' := by
    have := congrArg List.length er
    rwa [rowsL_length, rowsL_length] at this
  subst eH
  have hrow : ∀ y, y < H → rowL W c y = rowL W' c' y := fun y hy => by
    have h1 := rowsL_get W c H y hy
    have h2 := rowsL_get W' c' H y hy
    rw [er, h2] at h1
    exact (Option.some.inj h1).symm
  have eW : W = W' := by
    have := congrArg List.length (hrow 0 (by omega))
    rwa [rowL_length, rowL_length] at this
  subst eW
  refine ⟨rfl, rfl, list_ext (by rw [hl, hl']) fun i hi => ?_⟩
  rw [hl] at hi
  have hy : i / W < H := row_lt hi
  have hx : i % W < W := Nat.mod_lt _ hW
  have e3 : nn W (i / W) + i % W = i := by unfold nn; exact Nat.div_add_mod i W
  have h1 := rows_at (c := c) (y := i / W) hx
  have h2 := rows_at (c := c') (y := i / W) hx
  rw [e3] at h1 h2
  rw [← h1, ← h2, hrow _ hy]
theorem cell_plain {c : List UInt8} (h : ∀ i, i < c.length → isCellB (at0 c i) = true) : Plain c := by
  intro i hi e
  have := h i hi
  rw [e] at this
  exact absurd this (by decide)
/-- Cells moved about are cells. -/
theorem genC_cells {n : Nat} {f : Nat → UInt8} (h : ∀ i, i < n → isCellB (f i) = true) : ∀ i, i < (genC n f).length → isCellB (at0 (genC n f) i) = true := by
  intro i hi
  rw [genC_length] at hi
  rw [genC_at, if_pos hi]
  exact h i hi
theorem miC_cells {W H : Nat} {c : List UInt8} (hW : 0 < W) (hl : c.length = nn W H) (h : ∀ i, i < c.length → isCellB (at0 c i) = true) : ∀ i, i < (miC W H c).length → isCellB (at0 (miC W H c) i) = true :=
  genC_cells fun i hi => h _ (by rw [hl]; exact srcM_lt hW hi)
theorem tuS_cells {W H : Nat} {c : List UInt8} (hH : 0 < H) (hl : c.length = nn W H) (h : ∀ i, i < c.length → isCellB (at0 c i) = true) : ∀ i, i < (tuS W H c).length → isCellB (at0 (tuS W H c) i) = true :=
  genC_cells fun i hi => h _ (by
    rw [hl]
    exact pair_lt (row_lt (by rw [nn_comm]; exact hi)) (by omega))
/-! the moves -/
/-- A grid turned k times. -/
def turnN : Nat → Grid → Grid
  | 0, g => g
  | k + 1, g => let t := turnN k g; ⟨t.h, t.w, tuS t.w t.h t.c⟩
def mirG (g : Grid) : Grid := ⟨g.w, g.h, miC g.w g.h g.c⟩
theorem tuS_length (W H : Nat) (c : List UInt8) : (tuS W H c).length = nn W H := genC_length _ _
theorem tuS_at {W H : Nat} {c : List UInt8} {x y : Nat} (hx : x < H) (hy : y < W) : at0 (tuS W H c) (y * H + x) = at0 c ((H - 1 - x) * W + y) := by
  unfold tuS
  rw [genC_at, if_pos (by rw [nn_comm]; exact pair_lt hx hy), pair_mod hx, pair_div hx]
/-- Turned four times it is as before. -/
theorem tuS_four {W H : Nat} {c : List UInt8} (hW : 1 ≤ W) (hl : c.length = nn W H) : tuS H W (tuS W H (tuS H W (tuS W H c))) = c := by
  apply list_ext (by rw [tuS_length, hl, nn_comm])
  intro i hi
  rw [tuS_length, nn_comm] at hi
  have hx : i % W < W := Nat.mod_lt _ hW
  have hy : i / W < H := row_lt hi
  rw [← pair_eq W i]
  generalize i % W = x at *
  generalize i / W = y at *
  rw [tuS_at hx hy, tuS_at (by omega) (by omega), tuS_at (by omega) (by omega), tuS_at (by omega) (by omega)]
  congr 2
  · congr 1; omega
  · omega
end Go.Proofs.YthjkeohnjggmiaaDoor
