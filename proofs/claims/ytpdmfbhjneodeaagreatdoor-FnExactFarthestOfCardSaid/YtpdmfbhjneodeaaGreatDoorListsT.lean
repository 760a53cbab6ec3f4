/-
  The laws' helpers on lists of texts: compared, marked, and held.
-/
import Derived.Test.YtpdmfbhjneodeaaGreatDoorBLs
import Derived.Test.YtpdmfbhjneodeaaGreatDoorBWd
import Derived.Test.YtpdmfbhjneodeaaGreatDoorBLa
import Derived.Test.YtpdmfbhjneodeaaGreatDoorOps
namespace Go.Proofs.YtpdmfbhjneodeaaGreatDoor
open Go.RowKit
def tx (l : List UInt8) : Value := .string ⟨l.toArray⟩
def strV (L : List (List UInt8)) : List Value := L.map tx
theorem strV_one (L : List (List UInt8)) : ∀ v ∈ strV L, v.oneCell' = true := by
  intro v hv
  obtain ⟨b, _, rfl⟩ := List.mem_map.1 hv
  rfl
def ts (L : List (List UInt8)) (j : Nat) : List UInt8 := L.getD j []
theorem strV_get (L : List (List UInt8)) (j : Nat) (h : j < L.length) : (strV L)[j]? = some (tx (ts L j)) := by
  unfold strV ts
  rw [List.getElem?_map, List.getD_eq_getElem?_getD, List.getElem?_eq_getElem h]
  rfl
theorem strV_set (L : List (List UInt8)) (j : Nat) (s : List UInt8) : (strV L).set j (tx s) = strV (L.set j s) := by unfold strV; rw [List.map_set]
theorem strV_append (L M : List (List UInt8)) : strV L ++ strV M = strV (L ++ M) := by unfold strV; rw [List.map_append]
/-- The digits of a number, ahead of others. -/
def mkDig : Nat → Nat → List UInt8 → List UInt8
  | 0, _, out => out
  | f + 1, k, out => if k = 0 then out else mkDig f (k / 10) (UInt8.ofNat (48 + k % 10) :: out)
def mkT (k : Nat) : List UInt8 := 109 :: mkDig k k []
theorem mkDig_zero (f : Nat) (out : List UInt8) : mkDig f 0 out = out := by
  cases f with
  | zero => rfl
  | succ f => show (if 0 = 0 then _ else _) = _; rw [if_pos rfl]
/-- The first j texts replaced by marks. -/
def markST (L : List (List UInt8)) (k : Nat) : Nat → List (List UInt8)
  | 0 => L
  | j + 1 => (markST L k j).set j (mkT (k + j))
theorem markST_length (L : List (List UInt8)) (k j : Nat) : (markST L k j).length = L.length := by
  induction j with
  | zero => rfl
  | succ j ih => unfold markST; simp [ih]
theorem markST_at (L : List (List UInt8)) (k j i : Nat) (hj : j ≤ L.length) (hi : i < j) : ts (markST L k j) i = mkT (k + i) := by
  induction j with
  | zero => omega
  | succ j ih =>
    unfold ts markST
    rw [List.getD_eq_getElem?_getD, List.getElem?_set]
    by_cases e : j = i
    · subst e
      rw [if_pos rfl, if_pos (by rw [markST_length]; omega)]
      rfl
    · rw [if_neg e]
      have := ih (by omega) (by omega)
      unfold ts at this
      rw [← List.getD_eq_getElem?_getD]
      exact this
section
variable {P : Program} {w : World} {ops : Array Oper} {rest : List Oper} {a : Act} {Q : Exit → Act → World → Prop} {dst : Option Tmp} {ty : TypeId} {pos : String} {aft : Array Edge} {gd : Option (Nat × Bool)}
/-- An operation of two operands whose run is known. -/
theorem e_bin {T yt : TypeId} (op : BinOp) (x y : Operand) (u v : Value) {r : Value} (hx : a.eval x = u) (hy : a.eval y = v) (hg : ∀ w, (eqGuard op T x y u v).run P w = .ok () w) (hr : (binOp op T u v).run P w = .ok r w) :
    (execOp a.eval ⟨dst, .binOp op T x y yt, ty, pos, aft, gd⟩).run P w = .ok (.value r) w := by
  unfold execOp
  simp only [hx, hy, Sem.run_bind, hg w, hr, Result.andThen_ok, Sem.run_pure]
theorem r_bin {T yt : TypeId} (op : BinOp) (x y : Operand) (u v r : Value) (hx : a.eval x = u) (hy : a.eval y = v) (hg : ∀ w, (eqGuard op T x y u v).run P w = .ok () w) (hr : (binOp op T u v).run P w = .ok r w)
    (hgd : Region.wanted ⟨dst, .binOp op T x y yt, ty, pos, aft, gd⟩ (yielded ops a.tmps) = true) (h : wpList P ops Q rest (a.put dst r) w) : wpList P ops Q (⟨dst, .binOp op T x y yt, ty, pos, aft, gd⟩ :: rest) a w :=
  r_val r (e_bin op x y u v hx hy hg hr) hgd h
theorem e_neT {T yt : TypeId} (x y : Operand) (s t : List UInt8) (b : Bool) (hx : a.eval x = tx s) (hy : a.eval y = tx t) (hb : decide (s = t) = !b) :
    (execOp a.eval ⟨dst, .binOp .neq T x y yt, ty, pos, aft, gd⟩).run P w = .ok (.value (.bool b)) w := by
  have hb' : (!decide (s = t)) = b := by rw [hb, Bool.not_not]
  subst hb'
  unfold tx at hx hy
  unfold execOp
  simp [hx, hy, eqGuard, binOp_string_neq]
  rw [Bool.eq_iff_iff, beq_iff_eq, decide_eq_true_eq]
end
end Go.Proofs.YtpdmfbhjneodeaaGreatDoor
