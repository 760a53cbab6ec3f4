/-
  A number put into an increasing list: plain mathematics, and the slices' rules at []int.
-/
import Derived.Test.YtamdmhclhjkogaaDoorCellsB
namespace Go.Proofs.YtamdmhclhjkogaaDoor
open Go.RowKit
theorem insI_ok {O : List Int} {s : Int} {k : Nat} (hO : O.Pairwise (· < ·)) (hlo : ∀ i, i < k → i < O.length → gi O i < s) (hhi : ∀ i, k ≤ i → i < O.length → s < gi O i) :
    (O.take k ++ [s] ++ O.drop k).Pairwise (· < ·) ∧ ∀ y, y ∈ O.take k ++ [s] ++ O.drop k ↔ y = s ∨ y ∈ O := by
  have hsp : O.take k ++ O.drop k = O := List.take_append_drop k O
  have hO' := hO
  rw [← hsp, List.pairwise_append] at hO'
  obtain ⟨p1, p2, p3⟩ := hO'
  have hts : ∀ i (h : i < O.length), gi O i = O[i] := fun i h => by unfold gi; rw [List.getD_eq_getElem?_getD, List.getElem?_eq_getElem h]; rfl
  have lo : ∀ a ∈ O.take k, a < s := fun a ha => by
    obtain ⟨i, hi, rfl⟩ := List.getElem_of_mem ha
    rw [List.length_take] at hi
    rw [List.getElem_take, ← hts i (by omega)]
    exact hlo i (by omega) (by omega)
  have hi : ∀ b ∈ O.drop k, s < b := fun b hb => by
    obtain ⟨i, hi, rfl⟩ := List.getElem_of_mem hb
    rw [List.length_drop] at hi
    rw [List.getElem_drop, ← hts (k + i) (by omega)]
    exact hhi (k + i) (by omega) (by omega)
  refine ⟨?_, fun y => ?_⟩
  · rw [List.append_assoc, List.pairwise_append]
    refine ⟨p1, ?_, fun a ha b hb => ?_⟩
    · rw [List.singleton_append, List.pairwise_cons]
      exact ⟨hi, p2⟩
    · rcases List.mem_cons.1 hb with rfl | hb
      · exact lo a ha
      · exact p3 a ha b hb
  · conv => rhs; rw [← hsp]
    simp only [List.mem_append, List.mem_singleton]
    constructor
    · rintro ((h | h) | h)
      · exact .inr (.inl h)
      · exact .inl h
      · exact .inr (.inr h)
    · rintro (h | h | h)
      · exact .inl (.inr h)
      · exact .inl (.inl h)
      · exact .inr h
theorem inc_lt {L : List Int} (h : L.Pairwise (· < ·)) {i j : Nat} (hij : i < j) (hj : j < L.length) : gi L i < gi L j := by
  have := List.pairwise_iff_getElem.1 h i j (by omega) hj hij
  unfold gi
  rw [List.getD_eq_getElem?_getD, List.getD_eq_getElem?_getD, List.getElem?_eq_getElem (by omega), List.getElem?_eq_getElem hj]
  exact this
section
variable {P : Program} {w : World} {ops : Array Oper} {rest : List Oper} {a : Act} {Q : Exit → Act → World → Prop} {dst : Option Tmp} {ty : TypeId} {pos : String} {aft : Array Edge} {gd : Option (Nat × Bool)}
theorem r_lssI {T yt : TypeId} (x y : Operand) (m n : Int) (b : Bool) (hx : a.eval x = .int .i64 m) (hy : a.eval y = .int .i64 n) (hb : decide (m < n) = b)
    (hgd : Region.wanted ⟨dst, .binOp .lss T x y yt, ty, pos, aft, gd⟩ (yielded ops a.tmps) = true) (h : wpList P ops Q rest (a.put dst (.bool b)) w) : wpList P ops Q (⟨dst, .binOp .lss T x y yt, ty, pos, aft, gd⟩ :: rest) a w :=
  r_val (.bool b) (by
    subst hb
    unfold execOp
    simp [hx, hy, eqGuard, binOp, Op.intCmp]) hgd h
end
end Go.Proofs.YtamdmhclhjkogaaDoor
