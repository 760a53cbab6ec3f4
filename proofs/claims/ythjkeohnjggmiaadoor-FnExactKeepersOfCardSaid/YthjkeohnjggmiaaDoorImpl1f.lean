/-
  What the program's functions on a tray's text that look at its cells return: how many cells have a text.
-/
import Derived.Test.YthjkeohnjggmiaaDoorImpl1d
import Derived.Test.YthjkeohnjggmiaaDoorImpl1e
namespace Go.Proofs.YthjkeohnjggmiaaDoor
open Go.RowKit
theorem rd_cases (l : List UInt8) : (parse l = none ∧ rdG l = ⟨0, 0, []⟩ ∧ rdOk l = false) ∨ ∃ g, parse l = some g ∧ rdG l = g ∧ rdOk l = true := by
  cases h : parse l with
  | none => exact .inl ⟨rfl, by unfold rdG rdOk; rw [h]; exact ⟨rfl, rfl⟩⟩
  | some g => exact .inr ⟨g, rfl, by unfold rdG rdOk; rw [h]; exact ⟨rfl, rfl⟩⟩
structure Tray (g : Grid) : Prop where
  w1 : 1 ≤ g.w
  h1 : 1 ≤ g.h
  w7 : g.w ≤ 7
  h7 : g.h ≤ 7
  n36 : nn g.w g.h ≤ 36
  len : g.c.length = nn g.w g.h
  cells : ∀ i, i < g.c.length → isCellB (at0 g.c i) = true
theorem parse_tray {l : List UInt8} {g : Grid} (h : parse l = some g) : Tray g := by
  obtain ⟨⟨a, b, c, d⟩, e, f⟩ := parse_fits h
  obtain ⟨k, _, hc⟩ := parse_some h
  refine ⟨e, f, a, b, c, d, ?_⟩
  rw [hc]
  exact (all_at0 _ isCellB).1 (List.all_eq_true.2 k.cells)
theorem fin_nb {a c : Int} {x y : Bool} (h1 : a = c) (h2 : x = y) : Ending.returned (.tuple #[.int .i64 a, .bool x]) = .returned (.tuple #[.int .i64 c, .bool y]) := by rw [h1, h2]
theorem fin_sb {a c : ByteArray} {x y : Bool} (h1 : a = c) (h2 : x = y) : Ending.returned (.tuple #[.string a, .bool x]) = .returned (.tuple #[.string c, .bool y]) := by rw [h1, h2]
def ccOk (l : List UInt8) (c : ByteArray) : Bool := rdOk l && oneB c
def ccN (l : List UInt8) (c : ByteArray) : Nat := if ccOk l c then (rdG l).c.count (hd c) else 0
end Go.Proofs.YthjkeohnjggmiaaDoor
