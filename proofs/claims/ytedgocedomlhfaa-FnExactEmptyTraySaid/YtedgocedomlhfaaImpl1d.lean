/-
  What the program's reader of trays returns: a grid exactly for the texts that are trays.
-/
import Derived.Test.YtedgocedomlhfaaImpl1c
namespace Go.Proofs.Ytedgocedomlhfaa
open Go.RowKit
def rdG (l : List UInt8) : Grid := (parse l).getD ⟨0, 0, []⟩
def rdOk (l : List UInt8) : Bool := (parse l).isSome
theorem rd_none {l : List UInt8} (h : ∀ w, ¬ OkR (pieces l) w) : rdG l = ⟨0, 0, []⟩ ∧ rdOk l = false := by
  unfold rdG rdOk; rw [parse_none h]; exact ⟨rfl, rfl⟩
theorem rd_of {l : List UInt8} {w : Nat} (h : OkR (pieces l) w) : rdG l = ⟨w, (pieces l).length, (pieces l).flatten⟩ ∧ rdOk l = true := by
  unfold rdG rdOk; rw [parse_of h]; exact ⟨rfl, rfl⟩
def rowAt (rows : List ByteArray) (k : Nat) : ByteArray := rows.getD k ⟨#[]⟩
theorem rowAt_map (rows : List ByteArray) (k : Nat) (h : k < rows.length) : (rows.map (·.data.toList))[k]? = some (rowAt rows k).data.toList := by
  unfold rowAt; simp [List.getD, h]
theorem rowAt_cell {w : World} {B : Nat} {rows : List ByteArray} {T : TypeId} {fr : Nat × Nat} (h : Own w B (.cells (rows.map Value.string).toArray T fr)) (k : Nat) (hk : k < rows.length) :
    w.cell? ⟨B, k, none⟩ = some (.string (rowAt rows k)) := by
  rw [h.cell k]; unfold rowAt; simp [List.getD, hk]
theorem size_eq (s : ByteArray) : s.data.toList.length = s.size := Array.length_toList
theorem fin2 {A C : Array Value} {x y : Bool} (h1 : A = C) (h2 : x = y) : Ending.returned (.tuple #[.agg A, .bool x]) = .returned (.tuple #[.agg C, .bool y]) := by rw [h1, h2]
theorem take_flat {p : List (List UInt8)} {w : Nat} (k : Nat) (hk : k ≤ p.length) (h : ∀ (j : Nat) r, j < k → p[j]? = some r → r.length = w) : ((p.take k).flatten).length = nn w k := by
  have h2 : ∀ r ∈ p.take k, r.length = w := by
    intro r hr
    obtain ⟨j, hj, rfl⟩ := List.getElem_of_mem hr
    rw [List.length_take] at hj
    refine h j _ (by omega) ?_
    rw [List.getElem_take, List.getElem?_eq_getElem]
  rw [flatten_len h2, List.length_take, Nat.min_eq_left hk]
  rfl
theorem take_flat_succ {p : List (List UInt8)} {k : Nat} {r : List UInt8} (h : p[k]? = some r) : (p.take (k + 1)).flatten = (p.take k).flatten ++ r := by
  rw [List.take_add_one, h]; simp
theorem okR_mk {p : List (List UInt8)} {w : Nat} (h1 : 1 ≤ w) (h7 : w ≤ 7) (p1 : 1 ≤ p.length) (p7 : p.length ≤ 7) (h36 : nn w p.length ≤ 36) (hr : ∀ (j : Nat) r, j < p.length → p[j]? = some r → r.length = w) (hg : goodC p.flatten = true) : OkR p w := by
  unfold goodC at hg
  rw [Bool.and_eq_true] at hg
  refine ⟨h1, h7, p1, p7, h36, ?_, fun b hb => (List.all_eq_true.1 hg.1) b hb, hg.2⟩
  intro r hr'
  obtain ⟨j, hj, rfl⟩ := List.getElem_of_mem hr'
  exact hr j _ hj (List.getElem?_eq_getElem hj)
theorem okR_good {p : List (List UInt8)} {w : Nat} (h : OkR p w) : goodC p.flatten = true := by
  unfold goodC
  rw [Bool.and_eq_true]
  exact ⟨List.all_eq_true.2 h.cells, h.once⟩
end Go.Proofs.Ytedgocedomlhfaa
