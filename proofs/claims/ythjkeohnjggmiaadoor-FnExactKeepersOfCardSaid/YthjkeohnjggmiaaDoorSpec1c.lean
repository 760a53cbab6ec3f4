/-
  What the model's functions on single cells return: whether a text is one cell, how many cells have a text.
-/
import Derived.Test.YthjkeohnjggmiaaDoorSpec1b
import Derived.Test.YthjkeohnjggmiaaDoorImpl1f
import Derived.Test.YthjkeohnjggmiaaDoorFnA
namespace Go.Proofs.YthjkeohnjggmiaaDoor
open Go.RowKit
theorem beq_byte {b c : UInt8} (h : b = c) : ((b.toNat : Int) == (c.toNat : Int)) = true := by rw [h]; simp
theorem bne_byte {b c : UInt8} (h : ¬ b = c) : ((b.toNat : Int) == (c.toNat : Int)) = false := by
  rw [beq_eq_false_iff_ne]; intro e; exact h (UInt8.toNat_inj.1 (by omega))
theorem own_new {w : World} {base : Nat} {e : TypeId} {size : Nat} {v : Value} {n : Nat} {xs : List Value} (hr : w.ownsRow base e size v n xs) {B : Nat} (hB : w.heap.size ≤ B) : v.ownBlock ≠ some B := fun h => by
  have := (hr.lt B h).2
  omega
end Go.Proofs.YthjkeohnjggmiaaDoor
