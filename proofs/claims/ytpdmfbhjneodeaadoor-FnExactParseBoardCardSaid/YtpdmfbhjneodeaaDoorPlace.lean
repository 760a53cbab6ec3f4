/-
  Where a ball with a name stands: in the program and in the model, and the law.
-/
import Derived.Test.YtpdmfbhjneodeaaDoorBLs
namespace Go.Proofs.YtpdmfbhjneodeaaDoor
open Go.RowKit
/-- The first of n cells that holds b, -1 if there is none. -/
def ixC (c : List UInt8) (b : UInt8) (n : Nat) : Int :=
  match (List.range n).find? (fun i => at0 c i == b) with
  | some i => (i : Int)
  | none => -1
theorem ixC_some {c : List UInt8} {b : UInt8} {n k : Nat} (h1 : k < n) (h2 : at0 c k = b) (h3 : ∀ j, j < k → at0 c j ≠ b) : ixC c b n = k := by
  unfold ixC
  have : (List.range n).find? (fun i => at0 c i == b) = some k := by
    rw [List.find?_range_eq_some]
    refine ⟨by simp [h2], by simpa using h1, fun j hj => ?_⟩
    have := h3 j hj
    simpa using this
  rw [this]
theorem ixC_none {c : List UInt8} {b : UInt8} {n : Nat} (h : ∀ j, j < n → at0 c j ≠ b) : ixC c b n = -1 := by
  unfold ixC
  have : (List.range n).find? (fun i => at0 c i == b) = none := by
    rw [List.find?_eq_none]
    intro j hj
    have := h j (List.mem_range.1 hj)
    simpa using this
  rw [this]
theorem ixC_cases (c : List UInt8) (b : UInt8) (n : Nat) : (ixC c b n = -1 ∧ ∀ j, j < n → at0 c j ≠ b) ∨ ∃ k : Nat, k < n ∧ ixC c b n = k ∧ at0 c k = b ∧ ∀ j, j < k → at0 c j ≠ b := by
  induction n with
  | zero => exact .inl ⟨rfl, fun j hj => absurd hj (Nat.not_lt_zero _)⟩
  | succ n ih =>
    rcases ih with ⟨_, h⟩ | ⟨k, h1, _, h3, h4⟩
    · by_cases hb : at0 c n = b
      · exact .inr ⟨n, by omega, ixC_some (by omega) hb h, hb, h⟩
      · have hall : ∀ j, j < n + 1 → at0 c j ≠ b := fun j hj => if e : j = n then e ▸ hb else h j (by omega)
        exact .inl ⟨ixC_none hall, hall⟩
    · exact .inr ⟨k, by omega, ixC_some (by omega) h3 h4, h3, h4⟩
theorem ixC_more {c : List UInt8} {b : UInt8} {n m : Nat} (hb : b ≠ 0) (hn : c.length = n) (hm : n ≤ m) : ixC c b m = ixC c b n := by
  rcases ixC_cases c b n with ⟨h1, h2⟩ | ⟨k, h1, h2, h3, h4⟩
  · rw [h1]
    refine ixC_none fun j hj => ?_
    by_cases h : j < n
    · exact h2 j h
    · rw [at0_none c j (by omega)]; exact Ne.symm hb
  · rw [h2]; exact ixC_some (by omega) h3 h4
def plI (l : List UInt8) (s : ByteArray) : Int := if rdOk l && nameS s then ixC (rdG l).c (hd s) (nn (rdG l).w (rdG l).h) else -1
def plOk (l : List UInt8) (s : ByteArray) : Bool := decide (0 ≤ plI l s)
def plX (l : List UInt8) (s : ByteArray) : Int := if plOk l s then (((plI l s).toNat % (rdG l).w : Nat) : Int) else 0
def plY (l : List UInt8) (s : ByteArray) : Int := if plOk l s then (((plI l s).toNat / (rdG l).w : Nat) : Int) else 0
theorem pl_no {l : List UInt8} {s : ByteArray} (h : plI l s = -1) : plX l s = 0 ∧ plY l s = 0 ∧ plOk l s = false := by
  have : plOk l s = false := by unfold plOk; rw [h]; rfl
  unfold plX plY
  rw [this]; exact ⟨rfl, rfl, rfl⟩
theorem pl_yes {l : List UInt8} {s : ByteArray} {k : Nat} (h : plI l s = k) : plX l s = ((k % (rdG l).w : Nat) : Int) ∧ plY l s = ((k / (rdG l).w : Nat) : Int) ∧ plOk l s = true := by
  have : plOk l s = true := by unfold plOk; rw [h]; simp
  unfold plX plY
  rw [this, h]; exact ⟨rfl, rfl, rfl⟩
theorem fin_iib {a b c d : Int} {x y : Bool} (h1 : a = c) (h2 : b = d) (h3 : x = y) : Ending.returned (.tuple #[.int .i64 a, .int .i64 b, .bool x]) = .returned (.tuple #[.int .i64 c, .int .i64 d, .bool y]) := by rw [h1, h2, h3]
theorem name_ne {b : UInt8} (h : isNameB b = true) : b ≠ 0 := by
  intro e; subst e; exact absurd h (by decide)
end Go.Proofs.YtpdmfbhjneodeaaDoor
