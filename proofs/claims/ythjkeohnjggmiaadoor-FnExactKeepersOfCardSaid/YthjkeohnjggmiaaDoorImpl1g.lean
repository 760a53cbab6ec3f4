/-
  What the program's functions that return texts of cells return: one cell, and the text of a whole grid.
-/
import Derived.Test.YthjkeohnjggmiaaDoorImpl1f
namespace Go.Proofs.YthjkeohnjggmiaaDoor
open Go.RowKit
theorem bytes_one {w : World} {B o : Nat} {b : UInt8} (h : w.cell? ⟨B, o, none⟩ = some (.int .u8 b.toNat)) : Lib.Bytes w B o ⟨#[b]⟩ := by
  intro i hi
  have : i = 0 := by
    have : i < 1 := hi
    omega
  subst this
  exact h
theorem rowB_at (W : Nat) (c : List UInt8) (y i : Nat) (h : i < (rowB W c y).size) : (rowB W c y)[i] = at0 c (nn W y + i) := by
  have hi : i < W := by rw [rowB_size] at h; exact h
  rw [ByteArray.getElem_eq_getElem_data]
  have e := rowL_get W c y i hi
  unfold rowB
  simp only []
  rw [List.getElem?_eq_getElem (by rw [rowL_length]; exact hi)] at e
  exact Option.some.inj e
theorem bytes_row {w : World} {B o W y : Nat} {c : List UInt8} (h : ∀ i, i < W → w.cell? ⟨B, o + i, none⟩ = some (.int .u8 (at0 c (nn W y + i)).toNat)) : Lib.Bytes w B o (rowB W c y) := by
  intro i hi
  rw [rowB_at, h i (by rw [rowB_size] at hi; exact hi)]
def caOk (l : List UInt8) (x y : Int) : Bool := rdOk l && (inB x (rdG l).w && inB y (rdG l).h)
def caB (l : List UInt8) (x y : Int) : ByteArray := if caOk l x y then ⟨#[at0 (rdG l).c (nn (rdG l).w y.toNat + x.toNat)]⟩ else ⟨#[]⟩
/-- The rows of a grid as texts, and empty texts behind them. -/
def rowsV (W : Nat) (c : List UInt8) (H k : Nat) : Array Value := ((List.range H).map fun y => Value.string (if y < k then rowB W c y else ⟨#[]⟩)).toArray
theorem rowsV_size (W : Nat) (c : List UInt8) (H k : Nat) : (rowsV W c H k).size = H := by simp [rowsV]
theorem rowsV_get (W : Nat) (c : List UInt8) (H k y : Nat) (h : y < H) : (rowsV W c H k)[y]? = some (Value.string (if y < k then rowB W c y else ⟨#[]⟩)) := by
  unfold rowsV
  rw [List.getElem?_toArray, List.getElem?_map, List.getElem?_range h]
  rfl
theorem rowsV_zero (W : Nat) (c : List UInt8) (H : Nat) : madeCells (Value.string ⟨#[]⟩).cells (H * 1) = rowsV W c H 0 := by
  apply Array.ext_getElem?
  intro j
  by_cases hj : j < H
  · rw [rowsV_get W c H 0 j hj, if_neg (by omega)]
    unfold madeCells
    simp [Value.cells, hj, Nat.mod_one]
  · rw [Array.getElem?_eq_none (by rw [size_madeCells]; omega), Array.getElem?_eq_none (by rw [rowsV_size]; omega)]
theorem rowsV_set (W : Nat) (c : List UInt8) (H k : Nat) (h : k < H) : (rowsV W c H k).setIfInBounds k (.string (rowB W c k)) = rowsV W c H (k + 1) := by
  apply Array.ext_getElem?
  intro j
  by_cases hj : j < H
  · rw [rowsV_get W c H (k + 1) j hj, Array.getElem?_setIfInBounds]
    by_cases e : k = j
    · subst e
      rw [if_pos rfl, rowsV_size, if_pos h, if_pos (by omega)]
    · rw [if_neg e, rowsV_get W c H k j hj]
      congr 2
      by_cases h2 : j < k
      · rw [if_pos h2, if_pos (by omega)]
      · rw [if_neg h2, if_neg (by omega)]
  · rw [Array.getElem?_eq_none (by rw [Array.size_setIfInBounds, rowsV_size]; omega), Array.getElem?_eq_none (by rw [rowsV_size]; omega)]
theorem join_len (W : Nat) (c : List UInt8) (H : Nat) (hW : W ≤ 7) (hH : H ≤ 7) : (txtL W c H).length ≤ 56 := by
  have := txtL_length W c H
  have := nn_le (x := W + 1) (y := H) (a := 8) (b := 7) (by omega) hH
  omega
theorem Tryd.sl1 (B off n cap x : Nat) (hx : x < cap) (w : World) : (Instr.sliceAt 38 (.slice (some ⟨B, off, none⟩) n cap) (some (.int .i64 x)) (some (.int .i64 ((x : Int) + 1))) none).run Tryd.prog w = .ok (.slice (some ⟨B, off + x, none⟩) 1 (cap - x)) w := by
  have hu : Tryd.prog.underlying 38 = some (.slice (Tryd.prog.elem 38)) := by kernel_rfl
  rw [run_sliceAt_slice w 38 _ _ _ _ hu]
  have h := Lib.run_slice_window (P := Tryd.prog) w 38 5 Tryd.underlying38 Tryd.sizeOf5 B off n cap x (x + 1) (by omega) (by omega)
  rw [show x + 1 - x = 1 by omega] at h
  exact h
theorem Tryd.conv (B o cap : Nat) (s : ByteArray) (w : World) (hc : Lib.Bytes w B o s) (n : Nat) (hn : s.size = n) : (convert 38 9 (.slice (some ⟨B, o, none⟩) n cap)).run Tryd.prog w = .ok (.string s) w := by
  subst hn
  exact Lib.run_convert_whole w 38 5 9 Tryd.underlying38 Tryd.underlying5 Tryd.underlying9 B o s hc cap
theorem Tryd.strI : ElemInfo Tryd.prog 57 9 (.string ⟨#[]⟩) 1 16 := ⟨Tryd.underlying57, by kernel_rfl, rfl, by decide⟩
theorem rowsV_cells {w : World} {B : Nat} {W H : Nat} {c : List UInt8} {T : TypeId} (h : Blk w B (rowsV W c H H) T) : ∀ (j : Nat) x, ((List.range H).map (rowB W c))[j]? = some x → w.cell? ⟨B, 0 + j, none⟩ = some (.string x) := by
  intro j x hx
  rw [List.getElem?_map] at hx
  rcases Nat.lt_or_ge j H with hj | hj
  · rw [List.getElem?_range hj] at hx
    have : rowB W c j = x := by simpa using hx
    subst this
    rw [Nat.zero_add, h.cell j, rowsV_get W c H H j hj, if_pos hj]
  · rw [List.getElem?_eq_none (by simpa using hj)] at hx
    cases hx
theorem rowsB_map (W : Nat) (c : List UInt8) (H : Nat) : ((List.range H).map (rowB W c)).map (·.data.toList) = rowsL W c H := by
  unfold rowsL rowB
  rw [List.map_map]
  apply List.map_congr_left
  intro y _
  simp
theorem join_rows (B W H : Nat) (c : List UInt8) (w : World) (hb : Blk w B (rowsV W c H H) 9) (hW : W ≤ 7) (hH : H ≤ 7) : Calls Tryd.prog 55 #[.slice (some ⟨B, 0, none⟩) H H, .string ⟨#[47]⟩] w (Ret (.string (txtB W H c)) w) := by
  have hl := join_len W c H hW hH
  have h := Tryd.strings_Join B 0 H ((List.range H).map (rowB W c)) ⟨#[47]⟩ w (rowsV_cells hb) hb.lt (by simp; omega) (by simp) (by rw [rowsB_map]; show (txtL W c H).length ≤ _; omega)
  rw [rowsB_map, List.length_map, List.length_range] at h
  exact h
set_option maxHeartbeats 2000000 in
set_option maxRecDepth 100000 in
theorem trayText_any (W H : Nat) (c : List UInt8) (w : World) (hW1 : 1 ≤ W ∨ H = 0) (hW : W ≤ 7) (hH : H ≤ 7) (h36 : nn W H ≤ 36) : Calls Tryd.prog 45 #[.agg (gv W H c)] w (Ret (.string (txtB W H c)) w) := by
  have gg := Gr.refl w
  have hmk : H * 1 ≤ 16777216 := by omega
  have hby : 16 * H ≤ 281474976710656 := by omega
  go_enter Tryd.func45, Tryd.ntmps45
  go_wp2_with (first | (refine r_box 46 _ (gv W H c) rfl rfl ?_; intro w1 B1 N1; have g1 := N1.gr; have b1 : Blk w1 B1 (gv W H c) 46 := N1.blk; have l1 := N1.lo; have t1 := N1.hi; have z1 := g1.size; have gg := gg.trans g1; clear N1; obtain ⟨b1_0, b1_1, b1_2⟩ := gcells b1) | (refine r_make 57 9 _ _ _ Tryd.strI (.tmp 6) (.tmp 6) H rfl rfl hmk hby (by omega) rfl ?_; intro w2 B2 N2; have g2 := N2.gr; have b2 : Blk w2 B2 _ 9 := N2.blk; rw [rowsV_zero W c H] at b2; have l2 := N2.lo; have z2 := g2.size; have b1 := g2.blk b1; have gg := gg.trans g2))
  go_loopw [4, 10] (fun _ i wr => ∃ k : Nat, k ≤ H ∧ i = .int .i64 k ∧ Blk wr B1 (gv W H c) 46 ∧ Blk wr B2 (rowsV W c H k) 9 ∧ Gr w wr) (fun _ i _ => H - (intOf i).toNat)
  case atStart => exact ⟨0, Nat.zero_le _, rfl, b1, b2, gg⟩
  case round =>
    obtain ⟨k, hk, rfl, b1, b2, gg⟩ := hrel
    have hB12 : B1 < B2 := by omega
    have hlo2 : w.heap.size ≤ B2 := by omega
    have t2 := b2.lt
    by_cases hlt : k < H
    · have hle := nn_row (W := W) hlt
      have hW1' : 1 ≤ W := by omega
      have hse := rowsV_set W c H k hlt
      have hsz := rowsV_size W c H k
      have HSE := hidI hse
      clear hse
      go_wp2_with (first | (go_at_call 54; refine (rowOf_any B1 W H k _ _ b1 hW1' hW hlt h36 hH).mono ?_; rintro e w6 ⟨rfl, m, rfl⟩; have g6 := (Gr.refl wr).drewN m; have b1 := g6.blk b1; have b2 := g6.blk b2; have gg := gg.trans g6) | (refine r_conv 38 9 _ _ (.string (rowB W c k)) rfl (Tryd.conv B1 (2 + nn W k) _ _ _ (bytes_row (by intro i hi; rw [Nat.add_assoc]; exact (gcells b1).2.2 (nn W k + i) (by omega))) W (rowB_size W c k)) rfl ?_) | (refine r_store_cell 9 9 _ _ B2 k rfl (.string (rowB W c k)) rfl _ b2 (by rw [rowsV_size]; exact hlt) Tryd.sizeOf9 rfl rfl ?_; intro w7 u7 b7; rw [HSE.out] at b7))
      go_roundw
      case rel => exact ⟨k + 1, by omega, by go_num, u7.blk b1 (by omega), b7, u7.gr gg hlo2⟩
      case measure => simp [intOf]; omega
    · obtain rfl : k = H := by omega
      clear hlt
      go_wp2_with (go_at_call 55; refine (join_rows B2 W k c _ b2 hW hH).mono ?_; rintro e w9 ⟨rfl, g9⟩; have z9 := g9.size; have gg := gg.trans g9)
      go_ret
      exact ⟨rfl, gg⟩
end Go.Proofs.YthjkeohnjggmiaaDoor
