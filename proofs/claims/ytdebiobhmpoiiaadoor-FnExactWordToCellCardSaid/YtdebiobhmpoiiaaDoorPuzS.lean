/-
  A puzzle solved by the program: the states of its tray and those to which solutions lead.
-/
import Derived.Test.YtdebiobhmpoiiaaDoorPuzI
import Derived.Test.YtdebiobhmpoiiaaDoorReachF
import Derived.Test.YtdebiobhmpoiiaaDoorReachR
namespace Go.Proofs.YtdebiobhmpoiiaaDoor
open Go.RowKit
def fsV (S : List (Sta Grid)) (b : UInt8) (k : Nat) : Int := match fsS S b k with
  | none => -1
  | some j => j
def slV (v u : Value) : Array Value := #[v, u]
theorem slV_one {v u : Value} (h1 : v.oneCell' = true) (h2 : u.oneCell' = true) : ∀ x ∈ (slV v u).toList, x.oneCell' = true := by
  intro x hx
  unfold slV at hx
  simp only [List.mem_cons, List.not_mem_nil, or_false] at hx
  rcases hx with rfl | rfl
  · exact h1
  · exact h2
theorem slcells {w : World} {B : Nat} {v u : Value} {T : TypeId} (h : Blk w B (slV v u) T) : w.cell? ⟨B, 0, none⟩ = some v ∧ w.cell? ⟨B, 1, none⟩ = some u := ⟨h.cell 0, h.cell 1⟩
theorem e_eqK {P : Program} {w : World} {a : Act} {dst : Option Tmp} {ty T yt : TypeId} {pos : String} {aft : Array Edge} {gd : Option (Nat × Bool)} {k : IntKind} (x y : Operand) (m n : Int) (v : Bool) (hx : a.eval x = .int k m) (hy : a.eval y = .int k n) (hv : decide (m = n) = v) :
    (execOp a.eval ⟨dst, .binOp .eql T x y yt, ty, pos, aft, gd⟩).run P w = .ok (.value (.bool v)) w := by
  subst hv
  unfold execOp
  have e : (m == n) = decide (m = n) := by rw [Bool.eq_iff_iff, beq_iff_eq, decide_eq_true_eq]
  simp [hx, hy, eqGuard, binOp, Op.intCmp, e]
theorem e_idxP {P : Program} {w : World} {a : Act} {dst : Option Tmp} {ty T : TypeId} {pos : String} {aft : Array Edge} {gd : Option (Nat × Bool)} (x y : Operand) (v i u : Value) (hx : a.eval x = v) (hy : a.eval y = i) (hr : (Instr.indexAt T v i).run P w = .ok u w) :
    (execOp a.eval ⟨dst, .indexAddr T x y, ty, pos, aft, gd⟩).run P w = .ok (.value u) w := by
  unfold execOp
  simp only [hx, hy, Sem.run_bind, hr, Result.andThen_ok, Sem.run_pure]
theorem natsK (L : List Nat) (m : Nat) : natsV L ++ [.int .i64 (m : Int)] = natsV (L ++ [m]) := by unfold natsV; simp
theorem own_nat {w : World} {base : Nat} {e : TypeId} {g n cap : Nat} {L : List Nat} (hr : w.ownsRow base e 1 (.slice (some ⟨g, 0, none⟩) n cap) n (natsV L)) (j : Nat) (hj : j < n) (hn : n = L.length) :
    w.cell? ⟨g, j, none⟩ = some (.int .i64 ((L.getD j 0 : Nat) : Int)) := by
  have e1 : natsV L = intsV (L.map fun x : Nat => (x : Int)) := by unfold natsV intsV; rw [List.map_map]; rfl
  rw [e1] at hr
  have := own_int hr j hj (by rw [List.length_map]; exact hn)
  rw [this]
  unfold gi
  rw [List.getD_eq_getElem?_getD, List.getD_eq_getElem?_getD, List.getElem?_map, List.getElem?_eq_getElem (by omega)]
  rfl
theorem Tryd.intsZ : ElemInfo Tryd.prog 34 3 (.int .i64 0) 1 8 := ⟨Tryd.underlying34, by kernel_rfl, rfl, by decide⟩
theorem Tryd.bsiZ (u : Int) (w : World) : (Instr.buildSlice 34 1 #[(0, .int .i64 u)]).run Tryd.prog w = .ok (.slice (some ⟨w.heap.size, 0, none⟩) 1 1) (w.alloc (.cells #[.int .i64 u] 3)) := by kernel_rfl
theorem Tryd.nsixP (g n cap k : Nat) (hk : k < n) (w : World) : (Instr.indexAt 34 (.slice (some ⟨g, 0, none⟩) n cap) (.int .i64 k)).run Tryd.prog w = .ok (.pointer (some ⟨g, k, none⟩)) w := by
  have he : Tryd.prog.elem 34 = 3 := by kernel_rfl
  have hu : Tryd.prog.underlying 34 = some (.slice (Tryd.prog.elem 34)) := by rw [he]; exact Tryd.underlying34
  have hs : (sizeOf 3).run Tryd.prog w = .ok 1 w := by kernel_rfl
  rw [run_indexAt_slice w 34 ⟨g, 0, none⟩ n cap .i64 k hu, if_pos (by omega), he]
  simp [hs, Result.andThen, add_flat]
end Go.Proofs.YtdebiobhmpoiiaaDoor
