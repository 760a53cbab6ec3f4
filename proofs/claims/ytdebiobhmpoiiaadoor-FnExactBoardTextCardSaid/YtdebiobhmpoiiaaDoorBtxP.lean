/-
  The text of a board as plain mathematics: numbers joined to rows, rows joined; and the same text cell by cell.
-/
import Derived.Test.YtdebiobhmpoiiaaDoorBLs
import Derived.Lib.Join
namespace Go.Proofs.YtdebiobhmpoiiaaDoor
open Go.RowKit
def dgt (x : Int) : UInt8 := UInt8.ofNat (48 + x.toNat)
def nmsT (L : List Int) (o n : Nat) : List (List UInt8) := (List.range n).map fun j => [dgt (gi L (o + j))]
def rowT (L : List Int) (o n : Nat) : List UInt8 := Lib.join (nmsT L o n) [44]
def rowsT (L : List Int) (W k : Nat) : List (List UInt8) := (List.range k).map fun r => rowT L (r * W) W
def brdT (L : List Int) (W H : Nat) : List UInt8 := Lib.join (rowsT L W H) [47]
def sepT (W m : Nat) : List UInt8 := if m = 0 then [] else if m % W = 0 then [47] else [44]
def mtT (L : List Int) (W : Nat) : Nat → List UInt8
  | 0 => []
  | m + 1 => mtT L W m ++ (sepT W m ++ [dgt (gi L m)])
theorem jo_snoc (M : List (List UInt8)) (y sep : List UInt8) : Lib.join (M ++ [y]) sep = if M = [] then y else Lib.join M sep ++ (sep ++ y) := by
  cases M with
  | nil => rw [if_pos rfl, List.nil_append, Lib.join_one]
  | cons x r =>
    rw [if_neg (by simp), List.cons_append, Lib.join_cons, Lib.join_cons]
    unfold Lib.joinTail
    simp
theorem nmsT_length (L : List Int) (o n : Nat) : (nmsT L o n).length = n := by simp [nmsT]
theorem rowsT_length (L : List Int) (W k : Nat) : (rowsT L W k).length = k := by simp [rowsT]
theorem nmsT_succ (L : List Int) (o n : Nat) : nmsT L o (n + 1) = nmsT L o n ++ [[dgt (gi L (o + n))]] := by unfold nmsT; rw [List.range_succ, List.map_append]; rfl
theorem rowsT_succ (L : List Int) (W k : Nat) : rowsT L W (k + 1) = rowsT L W k ++ [rowT L (k * W) W] := by unfold rowsT; rw [List.range_succ, List.map_append]; rfl
theorem nil_iff {α : Type} {M : List α} {n : Nat} (h : M.length = n) : M = [] ↔ n = 0 := by rw [← h, List.length_eq_zero_iff]
theorem rowT_succ (L : List Int) (o n : Nat) : rowT L o (n + 1) = if n = 0 then [dgt (gi L o)] else rowT L o n ++ ([44] ++ [dgt (gi L (o + n))]) := by
  unfold rowT
  rw [nmsT_succ, jo_snoc]
  by_cases h : n = 0
  · subst h; rw [if_pos ((nil_iff (nmsT_length L o 0)).2 rfl), if_pos rfl]; rfl
  · rw [if_neg (fun e => h ((nil_iff (nmsT_length L o n)).1 e)), if_neg h]
theorem mtT_row (L : List Int) (W r : Nat) : ∀ j, j ≤ W → mtT L W (r * W + j) = mtT L W (r * W) ++ (if j = 0 then [] else (if r = 0 then [] else [47]) ++ rowT L (r * W) j)
  | 0, _ => by simp
  | j + 1, h => by
    have ih := mtT_row L W r j (by omega)
    rw [← Nat.add_assoc, mtT, ih, if_neg (by omega : ¬ j + 1 = 0), rowT_succ]
    by_cases h0 : j = 0
    · subst h0
      rw [if_pos rfl, if_pos rfl]
      unfold sepT
      by_cases hr : r = 0
      · subst hr; simp
      · have : ¬ r * W = 0 := by
          intro e
          rcases Nat.mul_eq_zero.1 e with e | e <;> omega
        rw [if_neg hr, Nat.add_zero, if_neg this, if_pos (Nat.mul_mod_left r W)]
        simp
    · rw [if_neg h0, if_neg h0]
      have hs : sepT W (r * W + j) = [44] := by
        unfold sepT
        rw [if_neg (by omega), if_neg]
        rw [Nat.mul_comm, Nat.mul_add_mod, Nat.mod_eq_of_lt (by omega)]
        exact h0
      rw [hs]
      simp
theorem mtT_rows (L : List Int) {W : Nat} (hW : 1 ≤ W) : ∀ k, mtT L W (k * W) = Lib.join (rowsT L W k) [47]
  | 0 => by rw [Nat.zero_mul]; rfl
  | k + 1 => by
    rw [Nat.succ_mul, mtT_row L W k W (Nat.le_refl _), if_neg (by omega), rowsT_succ, jo_snoc, mtT_rows L hW k]
    by_cases h : k = 0
    · subst h; rw [if_pos rfl, if_pos ((nil_iff (rowsT_length L W 0)).2 rfl)]; rfl
    · rw [if_neg h, if_neg (fun e => h ((nil_iff (rowsT_length L W k)).1 e))]
theorem lens_le {B : Nat} : ∀ (M : List (List UInt8)), (∀ x ∈ M, x.length ≤ B) → Lib.lens M ≤ M.length * B
  | [], _ => Nat.zero_le _
  | x :: r, h => by
    have ih := lens_le r (fun y hy => h y (List.mem_cons_of_mem _ hy))
    have h1 := h x List.mem_cons_self
    unfold Lib.lens at ih ⊢
    rw [List.map_cons, List.sum_cons, List.length_cons, Nat.succ_mul]
    omega
theorem join_le {B : Nat} (M : List (List UInt8)) (s : UInt8) (h : ∀ x ∈ M, x.length ≤ B) : (Lib.join M [s]).length ≤ M.length * (B + 1) := by
  cases M with
  | nil => exact Nat.zero_le _
  | cons x r =>
    rw [Lib.join_cons, List.length_append, Lib.joinTail_length]
    have h1 := lens_le r (fun y hy => h y (List.mem_cons_of_mem _ hy))
    have h2 := h x List.mem_cons_self
    have e : (r.length + 1) * (B + 1) = r.length * B + r.length + (B + 1) := by rw [Nat.succ_mul, Nat.mul_succ]
    rw [show (x :: r).length = r.length + 1 from rfl, e]
    simp only [List.length_cons, List.length_nil]
    omega
theorem rowT_le (L : List Int) (o n : Nat) : (rowT L o n).length ≤ n * 2 := by
  have := join_le (B := 1) (nmsT L o n) 44 (fun x hx => by
    unfold nmsT at hx
    obtain ⟨j, _, rfl⟩ := List.mem_map.1 hx
    exact Nat.le_refl _)
  rwa [nmsT_length] at this
theorem brdT_le (L : List Int) (W k : Nat) : (brdT L W k).length ≤ k * (W * 2 + 1) := by
  have := join_le (B := W * 2) (rowsT L W k) 47 (fun x hx => by
    unfold rowsT at hx
    obtain ⟨j, _, rfl⟩ := List.mem_map.1 hx
    exact rowT_le L _ _)
  rwa [rowsT_length] at this
end Go.Proofs.YtdebiobhmpoiiaaDoor
