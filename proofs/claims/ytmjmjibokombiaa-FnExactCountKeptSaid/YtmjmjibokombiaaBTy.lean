/-
  What the model's smallest functions on trays return, and its grids as values.
  What the model's reader of trays returns: a grid exactly for the texts that are trays.
  What the functions on a tray's text return, in the program and in the model: whether it is one, its sizes, and its cells.
-/
import Derived.Test.YtmjmjibokombiaaBKit
import Derived.Test.YtmjmjibokombiaaBRd
import Derived.Test.YtmjmjibokombiaaBTxt
namespace Go.Proofs.Ytmjmjibokombiaa
open Go.RowKit
/-- A grid of the model as a value: its sides and the slice of its cells. -/
def tg (W H : Int) (s : Value) : Array Value := #[.int .i64 W, .int .i64 H, s]
theorem tcells {w : World} {B : Nat} {W H : Int} {s : Value} {T : TypeId} (h : Blk w B (tg W H s) T) :
    w.cell? ⟨B, 0, none⟩ = some (.int .i64 W) ∧ w.cell? ⟨B, 1, none⟩ = some (.int .i64 H) ∧ w.cell? ⟨B, 2, none⟩ = some s :=
  ⟨h.cell 0, h.cell 1, h.cell 2⟩
theorem tg_one {W H : Int} {s : Value} (hs : s.oneCell' = true) : ∀ v ∈ (tg W H s).toList, v.oneCell' = true := by
  intro v hv
  simp [tg] at hv
  rcases hv with rfl | rfl | rfl
  · rfl
  · rfl
  · exact hs
theorem own_one {w : World} {base : Nat} {e : TypeId} {size : Nat} {v : Value} {n : Nat} {xs : List Value} (hr : w.ownsRow base e size v n xs) : v.oneCell' = true := by
  obtain ⟨_, ⟨rfl, _⟩ | ⟨g, cap, cur, rfl, _⟩⟩ := hr <;> rfl
theorem own_cell {w : World} {base : Nat} {e : TypeId} {g n cap : Nat} {c : List UInt8} (hr : w.ownsRow base e 1 (.slice (some ⟨g, 0, none⟩) n cap) n (c.map byteV)) (j : Nat) (hj : j < c.length) (hn : n = c.length) :
    w.cell? ⟨g, j, none⟩ = some (.int .u8 (at0 c j).toNat) := by
  rw [hr.cellAt j (by omega), List.getElem?_map]
  unfold at0
  rw [List.getElem?_eq_getElem hj]
  simp [byteV, List.getD, hj]
def cellsV (c : List UInt8) : List Value := c.map byteV
theorem cellsV_one (c : List UInt8) : ∀ v ∈ cellsV c, v.oneCell' = true := by
  intro v hv
  obtain ⟨b, _, rfl⟩ := List.mem_map.1 hv
  rfl
end Go.Proofs.Ytmjmjibokombiaa
namespace Go.Proofs.Ytmjmjibokombiaa
open Go.RowKit
/-- What the model's reader leaves. -/
def RetTy (T : TypeId) (l : List UInt8) (w : World) (e : Ending) (w' : World) : Prop :=
  Gr w w' ∧ ((parse l = none ∧ e = .returned (.tuple #[.agg (tg 0 0 (.slice none 0 0)), .bool false])) ∨
    ∃ (g : Grid) (sl : Value), parse l = some g ∧ e = .returned (.tuple #[.agg (tg g.w g.h sl), .bool true]) ∧ w'.ownsRow w.heap.size T 1 sl g.c.length (cellsV g.c))
theorem byte_get (s : ByteArray) (i : Nat) (h : i < s.size) : s.data.toList[i]? = some s[i] := by
  simp [ByteArray.getElem_eq_getElem_data]
theorem isome_ne {b : UInt8} (h : b ≠ 47) : ((b.toNat : Int) != 47) = true := by
  rw [bne_iff_ne]; intro e; exact h (UInt8.toNat_inj.1 (by simp; omega))
end Go.Proofs.Ytmjmjibokombiaa
namespace Go.Proofs.Ytmjmjibokombiaa
open Go.RowKit
theorem rd_parse_none {l : List UInt8} (h : parse l = none) : rdG l = ⟨0, 0, []⟩ ∧ rdOk l = false := by unfold rdG rdOk; rw [h]; exact ⟨rfl, rfl⟩
theorem rd_parse_some {l : List UInt8} {g : Grid} (h : parse l = some g) : rdG l = g ∧ rdOk l = true := by unfold rdG rdOk; rw [h]; exact ⟨rfl, rfl⟩
end Go.Proofs.Ytmjmjibokombiaa
