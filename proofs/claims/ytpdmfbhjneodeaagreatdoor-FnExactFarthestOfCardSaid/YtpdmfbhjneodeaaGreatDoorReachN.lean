/-
  The layers of the trays that a tray reaches: in the program and in the model, and the law.
-/
import Derived.Test.YtpdmfbhjneodeaaGreatDoorReachL
import Derived.Test.YtpdmfbhjneodeaaGreatDoorBLs
namespace Go.Proofs.YtpdmfbhjneodeaaGreatDoor
open Go.RowKit
/-- How many of the first k states lie at distance d. -/
def cntF (S : List (Sta Grid)) : Nat → Nat → Nat
  | 0, _ => 0
  | k + 1, d => cntF S k d + (if (sta S k).far = d then 1 else 0)
theorem cntF_le (S : List (Sta Grid)) (k d : Nat) : cntF S k d ≤ k := by
  induction k with
  | zero => exact Nat.le_refl _
  | succ k ih => unfold cntF; split <;> omega
theorem cntF_zero (S : List (Sta Grid)) (k d : Nat) (h : ∀ j, j < k → (sta S j).far < d) : cntF S k d = 0 := by
  induction k with
  | zero => rfl
  | succ k ih =>
    have := h k (by omega)
    unfold cntF
    rw [ih (fun j hj => h j (by omega)), if_neg (by omega)]
def layP (S : List (Sta Grid)) (m k : Nat) : List Int := (List.range m).map fun d => ((cntF S k d : Nat) : Int)
theorem layP_length (S : List (Sta Grid)) (m k : Nat) : (layP S m k).length = m := by simp [layP]
theorem layP_at (S : List (Sta Grid)) (m k d : Nat) (h : d < m) : gi (layP S m k) d = (cntF S k d : Nat) := by unfold gi layP; simp [List.getD, h]
theorem gi_set' (L : List Int) (i j : Nat) (x : Int) (h : i < L.length) : gi (L.set i x) j = if j = i then x else gi L j := by
  unfold gi
  simp only [List.getD_eq_getElem?_getD, List.getElem?_set]
  by_cases e : i = j
  · subst e; rw [if_pos rfl, if_pos rfl, if_pos h]; rfl
  · rw [if_neg e, if_neg (fun h => e h.symm)]
theorem layP_step (S : List (Sta Grid)) (m k : Nat) (h : (sta S k).far < m) : (layP S m k).set (sta S k).far ((cntF S k (sta S k).far : Nat) + 1) = layP S m (k + 1) := by
  apply int_ext (by rw [List.length_set, layP_length, layP_length])
  intro d hd
  rw [List.length_set, layP_length] at hd
  rw [gi_set' _ _ _ _ (by rw [layP_length]; exact h), layP_at _ _ _ _ hd, layP_at _ _ _ _ hd]
  show _ = ((cntF S k d + (if (sta S k).far = d then 1 else 0) : Nat) : Int)
  by_cases e : d = (sta S k).far
  · rw [if_pos e, if_pos e.symm, e]; rfl
  · rw [if_neg e, if_neg (fun h => e h.symm)]; rfl
theorem layP_grow (S : List (Sta Grid)) (m k : Nat) (h : ∀ j, j < k → (sta S j).far < m) : layP S m k ++ [0] = layP S (m + 1) k := by
  unfold layP
  rw [List.range_succ, List.map_append]
  show _ = _ ++ [((cntF S k m : Nat) : Int)]
  rw [cntF_zero S k m h]
  rfl
theorem layP_zero (S : List (Sta Grid)) (m : Nat) : layP S m 0 = (List.range m).map fun _ => (0 : Int) := rfl
theorem own_zerosN {w w1 : World} {B n : Nat} {T : TypeId} (N : New w w1 B (madeCells (Value.int .i64 0).cells (n * 1)) T) (hn : n ≤ 1073741824) : w1.ownsRow w.heap.size T 1 (.slice (some ⟨B, 0, none⟩) n n) n (intsV ((List.range n).map fun _ => (0 : Int))) := by
  refine ⟨by simp [intsV], .inr ⟨B, n, _, rfl, N.lo, N.blk, Nat.le_refl _, by unfold maxLen; omega, size_madeCells _ _, ?_⟩⟩
  apply List.ext_getElem?
  intro i
  by_cases hi : i < n
  · rw [List.getElem?_take, if_pos (by omega)]
    unfold madeCells intsV
    simp [hi]
    have e : (Value.int .i64 0).cells = #[Value.int .i64 0] := rfl
    rw [e]
    simp [Nat.mod_one]
  · rw [List.getElem?_eq_none (by simp; omega), List.getElem?_eq_none (by simp [intsV]; omega)]
section
variable {P : Program} {w : World} {ops : Array Oper} {rest : List Oper} {a : Act} {Q : Exit → Act → World → Prop} {dst : Option Tmp} {ty : TypeId} {pos : String} {aft : Array Edge} {gd : Option (Nat × Bool)}
theorem r_subI {T yt : TypeId} (x y : Operand) (m n r : Int) (hx : a.eval x = .int .i64 m) (hy : a.eval y = .int .i64 n) (hr : m - n = r) (hb : -9223372036854775808 ≤ r ∧ r ≤ 9223372036854775807)
    (hgd : Region.wanted ⟨dst, .binOp .sub T x y yt, ty, pos, aft, gd⟩ (yielded ops a.tmps) = true) (h : wpList P ops Q rest (a.put dst (.int .i64 r)) w) : wpList P ops Q (⟨dst, .binOp .sub T x y yt, ty, pos, aft, gd⟩ :: rest) a w :=
  r_val (.int .i64 r) (by
    unfold execOp
    simp only [hx, hy, eqGuard_sub, Sem.run_bind, Sem.run_pure, Result.andThen_ok, run_sub T m n r hr hb]) hgd h
end
theorem own_neS {w : World} {b1 b2 : Nat} {e1 e2 : TypeId} {s1 s2 : Nat} {v1 : Value} {n1 n2 g m c : Nat} {x1 x2 : List Value} (h1 : w.ownsRow b1 e1 s1 v1 n1 x1) (h2 : w.ownsRow b2 e2 s2 (.slice (some ⟨g, 0, none⟩) m c) n2 x2) (he : e1 ≠ e2) : v1.ownBlock ≠ some g := fun e => by
  rcases own_ne2 h1 h2 he with h | h
  · rw [h] at e; cases e
  · exact h e
def gstF (S : List (Sta Grid)) : Nat := (sta S (S.length - 1)).far
def layL (l : List UInt8) : List Int := match rcS l with
  | none => []
  | some S => layP S (gstF S + 1) S.length
theorem rcS_inv {l : List UInt8} {S : List (Sta Grid)} (h : rcS l = some S) : ∃ g, parse l = some g ∧ InvS (Sized g.w g.h) tiltG g S.length 0 S := by
  unfold rcS at h
  cases hp : parse l with
  | none => rw [hp] at h; cases h
  | some g =>
    rw [hp] at h
    obtain ⟨hc, -, -, -⟩ := cel_of hp
    exact ⟨g, rfl, reachS_inv Sized.tilt ⟨hc, rfl, rfl⟩ h⟩
theorem layL_le (l : List UInt8) : (layL l).length ≤ 301 := by
  unfold layL
  cases h : rcS l with
  | none => exact Nat.zero_le _
  | some S =>
    obtain ⟨g, -, hi⟩ := rcS_inv h
    show (layP S (gstF S + 1) S.length).length ≤ 301
    rw [layP_length]
    have h1 := hi.pos
    have h2 := hi.far_le (S.length - 1) (by omega)
    have h3 := hi.le
    unfold gstF
    omega
end Go.Proofs.YtpdmfbhjneodeaaGreatDoor
