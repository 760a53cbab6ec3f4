/-
  What the model's smallest functions on trays return, and its grids as values.
-/
import Derived.Test.YthjkeohnjggmiaaDoorSlices
import Derived.Test.YthjkeohnjggmiaaDoorImpl1b
namespace Go.Proofs.YthjkeohnjggmiaaDoor
open Go.RowKit
/-- A grid of the model as a value: its sides and the slice of its cells. -/
def tg (W H : Int) (s : Value) : Array Value := #[.int .i64 W, .int .i64 H, s]
theorem tcells {w : World} {B : Nat} {W H : Int} {s : Value} {T : TypeId} (h : Blk w B (tg W H s) T) :
    w.cell? ⟨B, 0, none⟩ = some (.int .i64 W) ∧ w.cell? ⟨B, 1, none⟩ = some (.int .i64 H) ∧ w.cell? ⟨B, 2, none⟩ = some s :=
  ⟨h.cell 0, h.cell 1, h.cell 2⟩
theorem tg_one {W H : Int} {s : Value} (hs : s.oneCell' = true) : ∀ v ∈ (tg W H s).toList, v.oneCell' = true := by
  intro v hv
  simp [tg] at hv
  rcases hv with rfl | rfl | rfl
  · rfl
  · rfl
  · exact hs
theorem own_one {w : World} {base : Nat} {e : TypeId} {size : Nat} {v : Value} {n : Nat} {xs : List Value} (hr : w.ownsRow base e size v n xs) : v.oneCell' = true := by
  obtain ⟨_, ⟨rfl, _⟩ | ⟨g, cap, cur, rfl, _⟩⟩ := hr <;> rfl
theorem own_cell {w : World} {base : Nat} {e : TypeId} {g n cap : Nat} {c : List UInt8} (hr : w.ownsRow base e 1 (.slice (some ⟨g, 0, none⟩) n cap) n (c.map byteV)) (j : Nat) (hj : j < c.length) (hn : n = c.length) :
    w.cell? ⟨g, j, none⟩ = some (.int .u8 (at0 c j).toNat) := by
  rw [hr.cellAt j (by omega), List.getElem?_map]
  unfold at0
  rw [List.getElem?_eq_getElem hj]
  simp [byteV, List.getD, hj]
def cellsV (c : List UInt8) : List Value := c.map byteV
theorem cellsV_one (c : List UInt8) : ∀ v ∈ cellsV c, v.oneCell' = true := by
  intro v hv
  obtain ⟨b, _, rfl⟩ := List.mem_map.1 hv
  rfl
theorem Tryd.tzero (w : World) : (zeroValue 40).run Tryd.prog w = .ok (.agg (tg 0 0 (.slice none 0 0))) w := by kernel_rfl
theorem Tryd.tsize (w : World) : (sizeOf 40).run Tryd.prog w = .ok 3 w := by kernel_rfl
theorem Tryd.tinfo : (Tryd.prog.info? 40).map (·.size) = some 3 := by kernel_rfl
theorem Tryd.tbuild0 (w : World) : (Instr.build 40 #[]).run Tryd.prog w = .ok (.agg (tg 0 0 (.slice none 0 0))) w := by kernel_rfl
theorem Tryd.tf0 (B : Nat) (w : World) : (Instr.fieldAt 40 (.pointer (some ⟨B, 0, none⟩)) 0).run Tryd.prog w = .ok (.pointer (some ⟨B, 0, none⟩)) w := by kernel_rfl
theorem Tryd.tf1 (B : Nat) (w : World) : (Instr.fieldAt 40 (.pointer (some ⟨B, 0, none⟩)) 1).run Tryd.prog w = .ok (.pointer (some ⟨B, 1, none⟩)) w := by kernel_rfl
theorem Tryd.tf2 (B : Nat) (w : World) : (Instr.fieldAt 40 (.pointer (some ⟨B, 0, none⟩)) 2).run Tryd.prog w = .ok (.pointer (some ⟨B, 2, none⟩)) w := by kernel_rfl
theorem Tryd.bytesI : ElemInfo Tryd.prog 38 5 (.int .u8 0) 1 1 := ⟨Tryd.underlying38, by kernel_rfl, rfl, by decide⟩
theorem Tryd.slsize (w : World) : (sizeOf 38).run Tryd.prog w = .ok 1 w := by kernel_rfl
theorem Tryd.bs1 (u : Int) (w : World) : (Instr.buildSlice 38 1 #[(0, .int .u8 u)]).run Tryd.prog w = .ok (.slice (some ⟨w.heap.size, 0, none⟩) 1 1) (w.alloc (.cells #[.int .u8 u] 5)) := by kernel_rfl
theorem Tryd.slhi (G n cap k : Nat) (hk : k ≤ cap) (w : World) : (Instr.sliceAt 38 (.slice (some ⟨G, 0, none⟩) n cap) none (some (.int .i64 k)) none).run Tryd.prog w = .ok (.slice (some ⟨G, 0, none⟩) k cap) w := by
  have hu : Tryd.prog.underlying 38 = some (.slice (Tryd.prog.elem 38)) := by kernel_rfl
  have he : Tryd.prog.elem 38 = 5 := by kernel_rfl
  rw [run_sliceAt_slice w 38 _ _ _ _ hu, run_slice_h w 38 (some ⟨G, 0, none⟩) n cap hu .i64 k (by omega) (by omega), he]
  simp [Tryd.sizeOf5, Result.andThen, sliced]
  intro _
  rfl
set_option maxHeartbeats 400000 in
theorem tyBall_any (b : UInt8) (w : World) : Calls Tryd.prog 106 #[.int .u8 b.toNat] w fun e w' => e = .returned (.bool (isBallB b)) ∧ w = w' := by
  have hV : isBallB b = (decide ((b.toNat : Int) = 111) || (decide (97 ≤ (b.toNat : Int)) && decide ((b.toNat : Int) ≤ 102))) := by
    unfold isBallB
    rw [Bool.eq_iff_iff]
    simp [UInt8.le_iff_toNat_le, ← UInt8.toNat_inj]
    omega
  have HV := hidI hV
  clear hV
  have hcases : (b.toNat : Int) = 111 ∨ ((b.toNat : Int) < 97) ∨ (97 ≤ (b.toNat : Int) ∧ (b.toNat : Int) ≤ 102) ∨ (102 < (b.toNat : Int) ∧ ¬ (b.toNat : Int) = 111) := by omega
  rcases hcases with h | h | ⟨h1, h2⟩ | ⟨h1, h2⟩
  · have HH := hidI h
    have ht : ((b.toNat : Int) == 111) = true := by rw [h]; rfl
    clear h
    go_enter Tryd.func106, Tryd.ntmps106
    go_wp2
    go_ret
    exact ⟨ret_bool (by rw [HV.out, HH.out]; rfl), rfl⟩
  · have hn : ((b.toNat : Int) == 111) = false := by rw [beq_eq_false_iff_ne]; omega
    go_enter Tryd.func106, Tryd.ntmps106
    go_wp2
    go_ret
    exact ⟨ret_bool (by rw [HV.out]; simp; omega), rfl⟩
  · have hn : ((b.toNat : Int) == 111) = false := by rw [beq_eq_false_iff_ne]; omega
    go_enter Tryd.func106, Tryd.ntmps106
    go_wp2
    go_ret
    exact ⟨ret_bool (by rw [HV.out]; simp; omega), rfl⟩
  · have hn : ((b.toNat : Int) == 111) = false := by rw [beq_eq_false_iff_ne]; omega
    clear h2
    go_enter Tryd.func106, Tryd.ntmps106
    go_wp2
    go_ret
    rw [beq_eq_false_iff_ne] at hn
    exact ⟨ret_bool (by rw [HV.out, decide_eq_false hn, decide_eq_false (show ¬ (b.toNat : Int) ≤ 102 by omega), Bool.and_false]; rfl), rfl⟩
set_option maxHeartbeats 400000 in
theorem tyIs_any (b : UInt8) (w : World) : Calls Tryd.prog 78 #[.int .u8 b.toNat] w fun e w' => e = .returned (.bool (isCellB b)) ∧ w = w' := by
  by_cases h1 : b = 35
  · subst h1
    go_enter Tryd.func78, Tryd.ntmps78
    go_wp2
    go_ret
    exact ⟨rfl, rfl⟩
  · by_cases h2 : b = 46
    · subst h2
      go_enter Tryd.func78, Tryd.ntmps78
      go_wp2
      go_ret
      exact ⟨rfl, rfl⟩
    · have n1 : ((b.toNat : Int) == 35) = false := by
        rw [beq_eq_false_iff_ne]; intro e; exact h1 (UInt8.toNat_inj.1 (by simp; omega))
      have n2 : ((b.toNat : Int) == 46) = false := by
        rw [beq_eq_false_iff_ne]; intro e; exact h2 (UInt8.toNat_inj.1 (by simp; omega))
      have HV := hidI (show isCellB b = isBallB b from by unfold isCellB; simp [h1, h2])
      clear h1 h2
      go_enter Tryd.func78, Tryd.ntmps78
      go_wp2_with (go_at_call 106; refine (tyBall_any _ _).mono ?_; rintro e wSame ⟨rfl, rfl⟩)
      go_ret
      exact ⟨ret_bool HV.out.symm, rfl⟩
end Go.Proofs.YthjkeohnjggmiaaDoor
