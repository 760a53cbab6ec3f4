/-
  The values of puzzles, and the closed facts on types that the walks ask for.
-/
import Derived.Test.YtpdmfbhjneodeaaDoorPuzP
namespace Go.Proofs.YtpdmfbhjneodeaaDoor
open Go.RowKit
/-- A puzzle as a value. -/
def pv (s n : ByteArray) (z : Int) : Array Value := #[.string s, .string n, .int .i64 z]
theorem pv_one (s n : ByteArray) (z : Int) : ∀ v ∈ (pv s n z).toList, v.oneCell' = true := by
  intro v hv
  unfold pv at hv
  simp only [List.mem_cons, List.not_mem_nil, or_false] at hv
  rcases hv with rfl | rfl | rfl <;> rfl
theorem pcells {w : World} {B : Nat} {s n : ByteArray} {z : Int} {T : TypeId} (h : Blk w B (pv s n z) T) :
    w.cell? ⟨B, 0, none⟩ = some (.string s) ∧ w.cell? ⟨B, 1, none⟩ = some (.string n) ∧ w.cell? ⟨B, 2, none⟩ = some (.int .i64 z) := ⟨h.cell 0, h.cell 1, h.cell 2⟩
/-- A puzzle that is read, as a value: the tray, the ball, the goal. -/
def qvl (g : Grid) (b : UInt8) (k : Int) : List Value := (gvG g).toList ++ [.int .u8 b.toNat, .int .i64 k]
def qv (g : Grid) (b : UInt8) (k : Int) : Array Value := (qvl g b k).toArray
theorem qvl_length (g : Grid) (b : UInt8) (k : Int) : (qvl g b k).length = 40 := by
  unfold qvl
  rw [List.length_append, gvl]
  rfl
theorem qv_size (g : Grid) (b : UInt8) (k : Int) : (qv g b k).size = 40 := by unfold qv; rw [List.size_toArray, qvl_length]
theorem qv_one (g : Grid) (b : UInt8) (k : Int) : ∀ v ∈ (qv g b k).toList, v.oneCell' = true := by
  intro u hu
  unfold qv qvl at hu
  rcases List.mem_append.1 hu with h | h
  · exact gv_one _ _ _ u h
  · simp only [List.mem_cons, List.not_mem_nil, or_false] at h
    rcases h with rfl | rfl <;> rfl
theorem qv_hd (g : Grid) (b : UInt8) (k : Int) (i : Nat) (hi : i < 38) : (qv g b k)[i]? = (gvG g)[i]? := by
  unfold qv qvl
  rw [List.getElem?_toArray, List.getElem?_append_left (by rw [gvl]; exact hi), Array.getElem?_toList]
theorem qv_tl (g : Grid) (b : UInt8) (k : Int) (i : Nat) : (qv g b k)[38 + i]? = [Value.int .u8 b.toNat, .int .i64 k][i]? := by
  unfold qv qvl
  rw [List.getElem?_toArray, List.getElem?_append_right (by rw [gvl]; omega), gvl, Nat.add_sub_cancel_left]
theorem qcells {w : World} {B : Nat} {g : Grid} {b : UInt8} {k : Int} {T : TypeId} (h : Blk w B (qv g b k) T) :
    w.rangeAt B 0 (gvG g).toList ∧ w.cell? ⟨B, 38, none⟩ = some (.int .u8 b.toNat) ∧ w.cell? ⟨B, 39, none⟩ = some (.int .i64 k) :=
  ⟨fun j u hj => by
    have h38 : j < 38 := by
      rcases Nat.lt_or_ge j 38 with h | h
      · exact h
      · rw [List.getElem?_eq_none (by rw [gvl]; exact h)] at hj; cases hj
    rw [Nat.zero_add, h.cell j, qv_hd g b k j h38, ← Array.getElem?_toList]; exact hj, (h.cell 38).trans (qv_tl g b k 0), (h.cell 39).trans (qv_tl g b k 1)⟩
section
variable {P : Program} {w : World} {a : Act} {dst : Option Tmp} {ty : TypeId} {pos : String} {aft : Array Edge} {gd : Option (Nat × Bool)}
theorem e_buildP (T : TypeId) (l : List (Nat × Operand)) (ps : List (Nat × Value)) (v : Value) (hr : (Instr.build T ps.toArray).run P w = .ok v w) (hp : l.map (fun x => (x.1, a.eval x.2)) = ps) :
    (execOp a.eval ⟨dst, .build T l.toArray, ty, pos, aft, gd⟩).run P w = .ok (.value v) w := by
  unfold execOp
  simp only [List.map_toArray]
  rw [show (l.map fun x => (x.1, a.eval x.2)) = ps from hp]
  simp only [Sem.run_bind, hr, Result.andThen_ok, Sem.run_pure]
end
def g00 : Grid := ⟨0, 0, []⟩
theorem Tryd.ipzero (w : World) : (zeroValue 23).run Tryd.prog w = .ok (.agg (pv ByteArray.empty ByteArray.empty 0)) w := by kernel_rfl
theorem Tryd.ipsize (w : World) : (sizeOf 23).run Tryd.prog w = .ok 3 w := by kernel_rfl
theorem Tryd.ipinfo : (Tryd.prog.info? 23).map (·.size) = some 3 := by kernel_rfl
theorem Tryd.ipbuild0 (w : World) : (Instr.build 23 #[]).run Tryd.prog w = .ok (.agg (pv ByteArray.empty ByteArray.empty 0)) w := by kernel_rfl
theorem Tryd.ipbuild (s n : ByteArray) (z : Int) (w : World) : (Instr.build 23 #[(0, .string s), (1, .string n), (2, .int .i64 z)]).run Tryd.prog w = .ok (.agg (pv s n z)) w := by kernel_rfl
theorem Tryd.ipf0 (B : Nat) (w : World) : (Instr.fieldAt 23 (.pointer (some ⟨B, 0, none⟩)) 0).run Tryd.prog w = .ok (.pointer (some ⟨B, 0, none⟩)) w := by kernel_rfl
theorem Tryd.ipf1 (B : Nat) (w : World) : (Instr.fieldAt 23 (.pointer (some ⟨B, 0, none⟩)) 1).run Tryd.prog w = .ok (.pointer (some ⟨B, 1, none⟩)) w := by kernel_rfl
theorem Tryd.ipf2 (B : Nat) (w : World) : (Instr.fieldAt 23 (.pointer (some ⟨B, 0, none⟩)) 2).run Tryd.prog w = .ok (.pointer (some ⟨B, 2, none⟩)) w := by kernel_rfl
theorem Tryd.qzero (w : World) : (zeroValue 45).run Tryd.prog w = .ok (.agg (qv g00 0 0)) w := by kernel_rfl
theorem Tryd.qsize0 (w : World) : (sizeOf 45).run Tryd.prog w = .ok 40 w := by kernel_rfl
theorem Tryd.qinfo0 : (Tryd.prog.info? 45).map (·.size) = some 40 := by kernel_rfl
theorem Tryd.qsize (g : Grid) (b : UInt8) (k : Int) (w : World) : (sizeOf 45).run Tryd.prog w = .ok (qv g b k).size w := by rw [qv_size]; exact Tryd.qsize0 w
theorem Tryd.qinfo (g : Grid) (b : UInt8) (k : Int) : (Tryd.prog.info? 45).map (·.size) = some (qv g b k).size := by rw [qv_size]; exact Tryd.qinfo0
theorem Tryd.qbuild0 (w : World) : (Instr.build 45 #[]).run Tryd.prog w = .ok (.agg (qv g00 0 0)) w := by kernel_rfl
theorem Tryd.qbuild (g : Grid) (b : UInt8) (k : Int) (w : World) : (Instr.build 45 #[(0, .agg (gvG g)), (1, .int .u8 b.toNat), (2, .int .i64 k)]).run Tryd.prog w = .ok (.agg (qv g b k)) w := by kernel_rfl
theorem Tryd.qf0 (B : Nat) (w : World) : (Instr.fieldAt 45 (.pointer (some ⟨B, 0, none⟩)) 0).run Tryd.prog w = .ok (.pointer (some ⟨B, 0, none⟩)) w := by kernel_rfl
theorem Tryd.qf1 (B : Nat) (w : World) : (Instr.fieldAt 45 (.pointer (some ⟨B, 0, none⟩)) 1).run Tryd.prog w = .ok (.pointer (some ⟨B, 38, none⟩)) w := by kernel_rfl
theorem Tryd.qf2 (B : Nat) (w : World) : (Instr.fieldAt 45 (.pointer (some ⟨B, 0, none⟩)) 2).run Tryd.prog w = .ok (.pointer (some ⟨B, 39, none⟩)) w := by kernel_rfl
end Go.Proofs.YtpdmfbhjneodeaaDoor
