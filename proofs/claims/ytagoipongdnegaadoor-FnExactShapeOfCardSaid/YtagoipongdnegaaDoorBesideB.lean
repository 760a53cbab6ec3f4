/-
  Two trays beside each other: in the program and in the model, and the law.
-/
import Derived.Test.YtagoipongdnegaaDoorBMv
import Derived.Test.YtagoipongdnegaaDoorBLs
import Derived.Test.YtagoipongdnegaaDoorBSp
import Derived.Lib.ConvBytes
namespace Go.Proofs.YtagoipongdnegaaDoor
open Go.RowKit
/-- The cells of the first y rows: each row of g, then that of k. -/
def bsL (g k : Grid) (y : Nat) : List UInt8 := ((List.range y).map fun i => rowL g.w g.c i ++ rowL k.w k.c i).flatten
theorem bsL_succ (g k : Grid) (y : Nat) : bsL g k (y + 1) = (bsL g k y ++ rowL g.w g.c y) ++ rowL k.w k.c y := by
  unfold bsL
  rw [List.range_succ, List.map_append, List.flatten_append]
  simp
theorem bsL_length (g k : Grid) (y : Nat) : (bsL g k y).length = nn (g.w + k.w) y := by
  induction y with
  | zero => rfl
  | succ y ih =>
    rw [bsL_succ, List.length_append, List.length_append, rowL_length, rowL_length, ih]
    unfold nn
    rw [Nat.mul_succ]
    omega
theorem bs_row (g k : Grid) (H y : Nat) (h : y < H) : rowL (g.w + k.w) (bsL g k H) y = rowL g.w g.c y ++ rowL k.w k.c y := by
  have hr : ∀ r ∈ (List.range H).map (fun i => rowL g.w g.c i ++ rowL k.w k.c i), r.length = g.w + k.w := by
    intro r hr
    obtain ⟨i, _, rfl⟩ := List.mem_map.1 hr
    rw [List.length_append, rowL_length, rowL_length]
  have e := rows_flatten hr
  rw [List.length_map, List.length_range] at e
  have e1 := rowsL_get (g.w + k.w) (bsL g k H) H y h
  have e2 : (rowsL (g.w + k.w) (bsL g k H) H)[y]? = some (rowL g.w g.c y ++ rowL k.w k.c y) := by
    show (rowsL (g.w + k.w) ((List.range H).map (fun i => rowL g.w g.c i ++ rowL k.w k.c i)).flatten H)[y]? = _
    rw [e, List.getElem?_map, List.getElem?_range h]
    rfl
  rw [e1] at e2
  exact Option.some.inj e2
theorem bs_rowB (g k : Grid) (H y : Nat) (h : y < H) : rowB g.w g.c y ++ rowB k.w k.c y = rowB (g.w + k.w) (bsL g k H) y := by
  unfold rowB
  rw [bs_row g k H y h]
  apply ByteArray.ext
  rw [ByteArray.data_append]
  simp
def beC (l m : List UInt8) : Bool := rdOk l && rdOk m && decide ((rdG l).h = (rdG m).h)
def beT (l m : List UInt8) : ByteArray := txtB ((rdG l).w + (rdG m).w) (rdG l).h (bsL (rdG l) (rdG m) (rdG l).h)
def beS (l m : List UInt8) : ByteArray := if beC l m then ifB (beT l m) else ⟨#[]⟩
def beO (l m : List UInt8) : Bool := if beC l m then rdOk (beT l m).data.toList else false
theorem be_no {l m : List UInt8} (h : beC l m = false) : beS l m = ⟨#[]⟩ ∧ beO l m = false := by unfold beS beO; rw [h]; exact ⟨rfl, rfl⟩
theorem be_yes {l m : List UInt8} {g k : Grid} (h1 : rdOk l = true) (h2 : rdOk m = true) (hg : rdG l = g) (hk : rdG m = k) (hh : g.h = k.h) : beS l m = ifB (txtB (g.w + k.w) g.h (bsL g k g.h)) ∧ beO l m = rdOk (txtB (g.w + k.w) g.h (bsL g k g.h)).data.toList := by
  have hc : beC l m = true := by unfold beC; rw [h1, h2, hg, hk, hh]; simp
  unfold beS beO beT
  rw [hc, hg, hk]
  exact ⟨rfl, rfl⟩
section
variable {P : Program} {w : World} {a : Act} {dst : Option Tmp} {ty : TypeId} {pos : String} {aft : Array Edge} {gd : Option (Nat × Bool)}
theorem e_convB {src dt : TypeId} (x : Operand) (v u : Value) (hx : a.eval x = v) (hr : (convert src dt v).run P w = .ok u w) :
    (execOp a.eval ⟨dst, .convert src dt x, ty, pos, aft, gd⟩).run P w = .ok (.value u) w := by
  unfold execOp
  simp only [hx, Sem.run_bind, hr, Result.andThen_ok, Sem.run_pure]
theorem e_addS {T yt : TypeId} (x y : Operand) (s t u : ByteArray) (hx : a.eval x = .string s) (hy : a.eval y = .string t) (hr : (Op.stringOp .add s t).run P w = .ok (.string u) w) :
    (execOp a.eval ⟨dst, .binOp .add T x y yt, ty, pos, aft, gd⟩).run P w = .ok (.value (.string u)) w := by
  unfold execOp
  simp only [hx, hy, eqGuard_add, Sem.run_bind, Sem.run_pure, Result.andThen_ok]
  show ((Op.stringOp .add s t).run P w).andThen _ = _
  rw [hr]
  rfl
end
theorem txtB_le14 (W H : Nat) (c : List UInt8) (hW : W ≤ 14) (hH : H ≤ 7) : (txtB W H c).size ≤ 105 := by
  have := txtB_size W H c
  have := nn_le (x := W + 1) (y := H) (a := 15) (b := 7) (by omega) hH
  omega
end Go.Proofs.YtagoipongdnegaaDoor
