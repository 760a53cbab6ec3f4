/-
  Plain mathematics: the text of a grid's cells, row by row.
-/
import Derived.Test.YthjkeohnjggmiaaDoorGrid
import Derived.Lib.Join
namespace Go.Proofs.YthjkeohnjggmiaaDoor
/-- The cells of row y. -/
def rowL (W : Nat) (c : List UInt8) (y : Nat) : List UInt8 := (List.range W).map fun x => at0 c (nn W y + x)
def rowsL (W : Nat) (c : List UInt8) (y : Nat) : List (List UInt8) := (List.range y).map (rowL W c)
/-- The text of the first y rows. -/
def txtL (W : Nat) (c : List UInt8) (y : Nat) : List UInt8 := Lib.join (rowsL W c y) [47]
def txtB (W H : Nat) (c : List UInt8) : ByteArray := ⟨(txtL W c H).toArray⟩
theorem rowL_length (W : Nat) (c : List UInt8) (y : Nat) : (rowL W c y).length = W := by simp [rowL]
theorem rowL_get (W : Nat) (c : List UInt8) (y i : Nat) (h : i < W) : (rowL W c y)[i]? = some (at0 c (nn W y + i)) := by
  unfold rowL
  rw [List.getElem?_map, List.getElem?_range h]
  rfl
theorem rowsL_length (W : Nat) (c : List UInt8) (y : Nat) : (rowsL W c y).length = y := by simp [rowsL]
theorem rowsL_get (W : Nat) (c : List UInt8) (y i : Nat) (h : i < y) : (rowsL W c y)[i]? = some (rowL W c i) := by
  unfold rowsL
  rw [List.getElem?_map, List.getElem?_range h]
  rfl
theorem rowsL_succ (W : Nat) (c : List UInt8) (y : Nat) : rowsL W c (y + 1) = rowsL W c y ++ [rowL W c y] := by
  unfold rowsL
  rw [List.range_succ, List.map_append]
  rfl
theorem join_snoc (x0 : List UInt8) (xs : List (List UInt8)) (x sep : List UInt8) : Lib.join (x0 :: xs ++ [x]) sep = Lib.join (x0 :: xs) sep ++ (sep ++ x) := by
  rw [List.cons_append, Lib.join_cons, Lib.join_cons]
  unfold Lib.joinTail
  simp
theorem txtL_zero (W : Nat) (c : List UInt8) : txtL W c 0 = [] := rfl
theorem txtL_one (W : Nat) (c : List UInt8) : txtL W c 1 = rowL W c 0 := by
  unfold txtL
  rw [rowsL_succ]
  exact Lib.join_one _ _
theorem txtL_succ (W : Nat) (c : List UInt8) (y : Nat) (h : 0 < y) : txtL W c (y + 1) = (txtL W c y ++ [47]) ++ rowL W c y := by
  obtain ⟨z, rfl⟩ : ∃ z, y = z + 1 := ⟨y - 1, by omega⟩
  unfold txtL
  rw [rowsL_succ W c (z + 1)]
  have e : rowsL W c (z + 1) = rowL W c 0 :: ((List.range z).map fun i => rowL W c (i + 1)) := by
    unfold rowsL
    rw [List.range_succ_eq_map, List.map_cons, List.map_map]
    rfl
  rw [e, join_snoc]
  simp
theorem txtL_length (W : Nat) (c : List UInt8) (y : Nat) : (txtL W c y).length ≤ nn (W + 1) y := by
  induction y with
  | zero => simp [txtL_zero]
  | succ y ih =>
    have e : nn (W + 1) (y + 1) = nn (W + 1) y + (W + 1) := by unfold nn; rw [Nat.mul_succ]
    rcases Nat.eq_zero_or_pos y with rfl | hy
    · rw [txtL_one, rowL_length, e]; omega
    · rw [txtL_succ W c y hy, List.length_append, List.length_append, rowL_length, e]
      simp
      omega
theorem rowL_ext {W y : Nat} {c d : List UInt8} (h : ∀ x, x < W → at0 c (nn W y + x) = at0 d (nn W y + x)) : rowL W c y = rowL W d y := by
  unfold rowL
  apply List.map_congr_left
  intro x hx
  exact h x (List.mem_range.1 hx)
theorem nn_row {W y H : Nat} (h : y < H) : nn W y + W ≤ nn W H := by
  unfold nn
  have : W * y + W = W * (y + 1) := by rw [Nat.mul_succ]
  rw [this]; exact Nat.mul_le_mul_left _ h
theorem txtL_ext {W H : Nat} {c d : List UInt8} (h : ∀ i, i < nn W H → at0 c i = at0 d i) : txtL W c H = txtL W d H := by
  unfold txtL rowsL
  congr 1
  apply List.map_congr_left
  intro y hy
  refine rowL_ext fun x hx => h _ ?_
  have := nn_row (W := W) (List.mem_range.1 hy)
  omega
theorem txtB_ext {W H : Nat} {c d : List UInt8} (h : ∀ i, i < nn W H → at0 c i = at0 d i) : txtB W H c = txtB W H d := by
  unfold txtB; rw [txtL_ext h]
theorem mkB_append (a b : List UInt8) : (⟨a.toArray⟩ ++ ⟨b.toArray⟩ : ByteArray) = ⟨(a ++ b).toArray⟩ := by
  apply ByteArray.ext
  rw [ByteArray.data_append]
  simp
def rowB (W : Nat) (c : List UInt8) (y : Nat) : ByteArray := ⟨(rowL W c y).toArray⟩
theorem rowB_size (W : Nat) (c : List UInt8) (y : Nat) : (rowB W c y).size = W := by
  show (rowL W c y).toArray.size = W
  simp [rowL_length]
theorem txtB_size (W H : Nat) (c : List UInt8) : (txtB W H c).size ≤ nn (W + 1) H := by
  show (txtL W c H).toArray.size ≤ _
  simpa using txtL_length W c H
theorem txtB_data (W H : Nat) (c : List UInt8) : (txtB W H c).data.toList = txtL W c H := by simp [txtB]
end Go.Proofs.YthjkeohnjggmiaaDoor
