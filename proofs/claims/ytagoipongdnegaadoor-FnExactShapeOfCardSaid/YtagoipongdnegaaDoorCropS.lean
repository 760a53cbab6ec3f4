/-
  A tray cropped to its open cells: in the model, and the law.
-/
import Derived.Test.YtagoipongdnegaaDoorCropB
namespace Go.Proofs.YtagoipongdnegaaDoor
open Go.RowKit
section
variable {P : Program} {w : World} {a : Act} {dst : Option Tmp} {ty : TypeId} {pos : String} {aft : Array Edge} {gd : Option (Nat × Bool)}
theorem e_quoC {T yt : TypeId} (x y : Operand) (m n : Nat) (hx : a.eval x = .int .i64 m) (hy : a.eval y = .int .i64 n) (hn : 0 < n) (hm : m ≤ 9223372036854775807) :
    (execOp a.eval ⟨dst, .binOp .quo T x y yt, ty, pos, aft, gd⟩).run P w = .ok (.value (.int .i64 (m / n : Nat))) w := by
  unfold execOp
  simp only [hx, hy, eqGuard_quo, Sem.run_bind, Sem.run_pure, Result.andThen_ok, run_quo T m n hn hm]
theorem e_remC {T yt : TypeId} (x y : Operand) (m n : Nat) (hx : a.eval x = .int .i64 m) (hy : a.eval y = .int .i64 n) (hn : 0 < n) :
    (execOp a.eval ⟨dst, .binOp .rem T x y yt, ty, pos, aft, gd⟩).run P w = .ok (.value (.int .i64 (m % n : Nat))) w := by
  unfold execOp
  simp only [hx, hy, eqGuard_rem, Sem.run_bind, Sem.run_pure, Result.andThen_ok, run_rem T m n hn]
theorem e_subC {T yt : TypeId} (x y : Operand) (m n r : Int) (hx : a.eval x = .int .i64 m) (hy : a.eval y = .int .i64 n) (hr : m - n = r) (h : -9223372036854775808 ≤ r ∧ r ≤ 9223372036854775807) :
    (execOp a.eval ⟨dst, .binOp .sub T x y yt, ty, pos, aft, gd⟩).run P w = .ok (.value (.int .i64 r)) w := by
  unfold execOp
  simp only [hx, hy, eqGuard_sub, Sem.run_bind, Sem.run_pure, Result.andThen_ok, run_sub T m n r hr h]
end
theorem e_cutC {P : Program} {w : World} {a : Act} {dst : Option Tmp} {ty T : TypeId} {pos : String} {aft : Array Edge} {gd : Option (Nat × Bool)} (x lo hi : Operand) (v l h r : Value) (hx : a.eval x = v) (hl : a.eval lo = l) (hh : a.eval hi = h) (hr : (Instr.sliceAt T v (some l) (some h) none).run P w = .ok r w) :
    (execOp a.eval ⟨dst, .slice T x (some lo) (some hi) none, ty, pos, aft, gd⟩).run P w = .ok (.value r) w := by
  unfold execOp
  simp only [Option.map_some, Option.map_none, hx, hl, hh, Sem.run_bind, hr, Result.andThen_ok, Sem.run_pure]
theorem mul_nnC (w y : Nat) : (y : Int) * (w : Int) = ((nn w y : Nat) : Int) := by unfold nn; rw [Int.natCast_mul, Int.mul_comm]
theorem own_apartC {w1 w2 : World} {b1 b2 : Nat} {e1 e2 : TypeId} {s1 s2 : Nat} {G n1 c1 : Nat} {v2 : Value} {n2 : Nat} {x1 x2 : List Value} (_h1 : w1.ownsRow b1 e1 s1 (.slice (some ⟨G, 0, none⟩) n1 c1) n1 x1) (h2 : w2.ownsRow b2 e2 s2 v2 n2 x2) (hb : G < b2) : (Value.slice (some ⟨G, 0, none⟩) n1 c1).ownBlock = none ∨ (Value.slice (some ⟨G, 0, none⟩) n1 c1).ownBlock ≠ v2.ownBlock :=
  .inr fun e => by
    have := (h2.lt G e.symm).1
    omega
theorem seg_news {w : World} {base : Nat} {e : TypeId} {G cap o m : Nat} {c : List UInt8} (hr : w.ownsRow base e 1 (.slice (some ⟨G, 0, none⟩) c.length cap) c.length (cellsV c)) (hle : o + m ≤ c.length) :
    ∀ (j : Nat) u, (cellsV (seg c o m))[j]? = some u → w.cell? ((⟨G, o, none⟩ : Addr).add j) = some u := by
  intro j u hj
  have hjl : j < m := by
    rcases Nat.lt_or_ge j m with h | h
    · exact h
    · rw [List.getElem?_eq_none (by simpa [cellsV, seg_length] using h)] at hj; cases hj
  have h1 := own_cell hr (o + j) (by omega) rfl
  unfold cellsV at hj
  rw [List.getElem?_map, seg_get c o m j hjl] at hj
  have e : byteV (at0 c (o + j)) = u := by simpa using hj
  subst e
  have e3 : (⟨G, o, none⟩ : Addr).add j = ⟨G, o + j, none⟩ := by simp [Addr.add]
  rw [e3]
  exact h1
end Go.Proofs.YtagoipongdnegaaDoor
