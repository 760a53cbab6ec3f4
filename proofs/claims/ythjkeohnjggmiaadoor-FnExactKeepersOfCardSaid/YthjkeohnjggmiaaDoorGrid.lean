/-
  The values of the program's grids (two sides and thirty-six cells), and the closed facts on types that the walks ask for.
-/
import Derived.Test.YthjkeohnjggmiaaDoorKit
import Derived.Test.YthjkeohnjggmiaaDoorPure
import Derived.Test.YthjkeohnjggmiaaDoorProg
namespace Go.Proofs.YthjkeohnjggmiaaDoor
open Go.RowKit
/-- The byte at a place, 0 behind the end. -/
def at0 (c : List UInt8) (i : Nat) : UInt8 := c.getD i 0
def byteV (b : UInt8) : Value := .int .u8 b.toNat
/-- The first n cells of a list of bytes, with zeros behind them. -/
def cellsL (n : Nat) (c : List UInt8) : List Value := (List.range n).map fun i => byteV (at0 c i)
theorem cellsL_length (n : Nat) (c : List UInt8) : (cellsL n c).length = n := by simp [cellsL]
theorem cellsL_get (n : Nat) (c : List UInt8) (i : Nat) (h : i < n) : (cellsL n c)[i]? = some (byteV (at0 c i)) := by
  unfold cellsL
  rw [List.getElem?_map, List.getElem?_range h]
  rfl
theorem cellsL_one (n : Nat) (c : List UInt8) : ∀ v ∈ cellsL n c, v.oneCell' = true := by
  intro v hv
  unfold cellsL at hv
  obtain ⟨i, _, rfl⟩ := List.mem_map.1 hv
  rfl
/-- A grid as a value: its sides, and 36 cells: those of the list, and zeros behind them. -/
def gv (W H : Int) (c : List UInt8) : Array Value := ([Value.int .i64 W, Value.int .i64 H] ++ cellsL 36 c).toArray
theorem gv_size (W H : Int) (c : List UInt8) : (gv W H c).size = 38 := by
  unfold gv
  rw [List.size_toArray, List.length_append, cellsL_length]
  rfl
theorem gv_0 (W H : Int) (c : List UInt8) : (gv W H c)[0]? = some (.int .i64 W) := by unfold gv; rw [List.getElem?_toArray]; rfl
theorem gv_1 (W H : Int) (c : List UInt8) : (gv W H c)[1]? = some (.int .i64 H) := by unfold gv; rw [List.getElem?_toArray]; rfl
theorem gv_c (W H : Int) (c : List UInt8) (i : Nat) (h : i < 36) : (gv W H c)[2 + i]? = some (byteV (at0 c i)) := by
  unfold gv
  rw [List.getElem?_toArray, List.getElem?_append_right (by show 2 ≤ 2 + i; omega)]
  rw [show 2 + i - List.length [Value.int .i64 W, Value.int .i64 H] = i by show 2 + i - 2 = i; omega]
  exact cellsL_get 36 c i h
theorem gv_one (W H : Int) (c : List UInt8) : ∀ v ∈ (gv W H c).toList, v.oneCell' = true := by
  intro v hv
  unfold gv at hv
  rw [List.mem_append] at hv
  rcases hv with hv | hv
  · rcases List.mem_cons.1 hv with rfl | hv
    · rfl
    · rcases List.mem_cons.1 hv with rfl | hv
      · rfl
      · cases hv
  · exact cellsL_one 36 c v hv
theorem gv_ext {W H : Int} {c d : List UInt8} (h : ∀ i, i < 36 → at0 c i = at0 d i) : gv W H c = gv W H d := by
  apply Array.ext_getElem?
  intro j
  rcases Nat.lt_or_ge j 2 with hj | hj
  · have : j = 0 ∨ j = 1 := by omega
    rcases this with rfl | rfl
    · rw [gv_0, gv_0]
    · rw [gv_1, gv_1]
  · obtain ⟨k, rfl⟩ : ∃ k, j = 2 + k := ⟨j - 2, by omega⟩
    by_cases hk : k < 36
    · rw [gv_c _ _ _ k hk, gv_c _ _ _ k hk, h k hk]
    · rw [Array.getElem?_eq_none (by rw [gv_size]; omega), Array.getElem?_eq_none (by rw [gv_size]; omega)]
theorem gv_set (W H : Int) (c : List UInt8) (i : Nat) (b : UInt8) (hi : i < 36) (hc : i < c.length) : (gv W H c).setIfInBounds (2 + i) (byteV b) = gv W H (c.set i b) := by
  apply Array.ext_getElem?
  intro j
  rw [Array.getElem?_setIfInBounds]
  by_cases hj : j < 2
  · rw [if_neg (by omega)]
    have : j = 0 ∨ j = 1 := by omega
    rcases this with rfl | rfl
    · rw [gv_0, gv_0]
    · rw [gv_1, gv_1]
  · obtain ⟨k, rfl⟩ : ∃ k, j = 2 + k := ⟨j - 2, by omega⟩
    by_cases hk : k < 36
    · rw [gv_c _ _ _ k hk, gv_c _ _ _ k hk]
      by_cases e : i = k
      · subst e
        rw [if_pos rfl, gv_size, if_pos (by omega)]
        congr 2
        simp [at0, List.getD, hc]
      · rw [if_neg (by omega)]
        congr 2
        simp only [at0, List.getD]
        rw [List.getElem?_set_ne e]
    · rw [if_neg (by omega)]
      rw [Array.getElem?_eq_none (by rw [gv_size]; omega), Array.getElem?_eq_none (by rw [gv_size]; omega)]
theorem cellsL_eq (n : Nat) (c : List UInt8) (h : c.length ≤ n) : cellsL n c = c.map byteV ++ List.replicate (n - c.length) (byteV 0) := by
  apply List.ext_getElem?
  intro i
  by_cases hi : i < n
  · rw [cellsL_get n c i hi]
    unfold at0
    by_cases hc : i < c.length
    · rw [List.getElem?_append_left (by simpa using hc)]
      simp [List.getD, hc]
    · rw [List.getElem?_append_right (by simpa using hc), List.getElem?_replicate, if_pos (by simp; omega)]
      simp [List.getD, List.getElem?_eq_none (show c.length ≤ i by omega)]
  · rw [List.getElem?_eq_none (by rw [cellsL_length]; omega), List.getElem?_eq_none (by simp; omega)]
theorem gv_copy (W H : Int) (c r : List UInt8) (k : Nat) (hk : c.length = k) (hr : k + r.length ≤ 36) :
    ((gv W H c).toList.take (2 + k) ++ Lib.byteCells r ++ (gv W H c).toList.drop (2 + k + r.length)).toArray = gv W H (c ++ r) := by
  subst hk
  have e : (gv W H c).toList = [Value.int .i64 W, Value.int .i64 H] ++ (c.map byteV ++ List.replicate (36 - c.length) (byteV 0)) := by
    unfold gv; rw [cellsL_eq 36 c (by omega)]
  have e2 : gv W H (c ++ r) = ([Value.int .i64 W, Value.int .i64 H] ++ ((c ++ r).map byteV ++ List.replicate (36 - (c ++ r).length) (byteV 0))).toArray := by
    unfold gv; rw [cellsL_eq 36 (c ++ r) (by simp; omega)]
  have hbc : Lib.byteCells r = r.map byteV := rfl
  rw [e, e2, hbc]
  congr 1
  simp only [List.map_append, List.length_append]
  have h1 : List.take (2 + c.length) ([Value.int .i64 W, Value.int .i64 H] ++ (c.map byteV ++ List.replicate (36 - c.length) (byteV 0))) = [Value.int .i64 W, Value.int .i64 H] ++ c.map byteV := by
    rw [← List.append_assoc, List.take_append_of_le_length (by simp; omega), List.take_of_length_le (by simp; omega)]
  have h2 : List.drop (2 + c.length + r.length) ([Value.int .i64 W, Value.int .i64 H] ++ (c.map byteV ++ List.replicate (36 - c.length) (byteV 0))) = List.replicate (36 - (c.length + r.length)) (byteV 0) := by
    rw [← List.append_assoc, List.drop_append, List.drop_of_length_le (by simp; omega)]
    simp
    omega
  rw [h1, h2]
  simp
def gvG (g : Grid) : Array Value := gv g.w g.h g.c
/-- The cells of a block that holds a grid. -/
theorem gcells {w : World} {B : Nat} {W H : Int} {c : List UInt8} {T : TypeId} (h : Blk w B (gv W H c) T) :
    w.cell? ⟨B, 0, none⟩ = some (.int .i64 W) ∧ w.cell? ⟨B, 1, none⟩ = some (.int .i64 H) ∧ (∀ i, i < 36 → w.cell? ⟨B, 2 + i, none⟩ = some (.int .u8 (at0 c i).toNat)) :=
  ⟨(h.cell 0).trans (gv_0 W H c), (h.cell 1).trans (gv_1 W H c), fun i hi => (h.cell (2 + i)).trans (gv_c W H c i hi)⟩
theorem Tryd.gzero (w : World) : (zeroValue 46).run Tryd.prog w = .ok (.agg (gv 0 0 [])) w := by kernel_rfl
theorem Tryd.gsize (w : World) : (sizeOf 46).run Tryd.prog w = .ok 38 w := by kernel_rfl
theorem Tryd.ginfo : (Tryd.prog.info? 46).map (·.size) = some 38 := by kernel_rfl
theorem Tryd.ginfo' (W H : Int) (c : List UInt8) : (Tryd.prog.info? 46).map (·.size) = some (gv W H c).size := by rw [gv_size]; exact Tryd.ginfo
theorem Tryd.gsize' (W H : Int) (c : List UInt8) (w : World) : (sizeOf 46).run Tryd.prog w = .ok (gv W H c).size w := by rw [gv_size]; exact Tryd.gsize w
theorem Tryd.gbuild0 (w : World) : (Instr.build 46 #[]).run Tryd.prog w = .ok (.agg (gv 0 0 [])) w := by kernel_rfl
theorem Tryd.gbuild (x y : Int) (w : World) : (Instr.build 46 #[(0, .int .i64 x), (1, .int .i64 y)]).run Tryd.prog w = .ok (.agg (gv x y [])) w := by kernel_rfl
theorem Tryd.alen : Tryd.prog.arrayLen 44 = 36 := by kernel_rfl
theorem Tryd.aelem : Tryd.prog.elem 44 = 5 := by kernel_rfl
end Go.Proofs.YthjkeohnjggmiaaDoor
