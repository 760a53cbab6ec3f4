/-
  A puzzle read by the program, and whether there is one.
-/
import Derived.Test.YtdebiobhmpoiiaaDoorPuzK
import Derived.Deep.Cut
namespace Go.Proofs.YtdebiobhmpoiiaaDoor
open Go.RowKit
/-- The value of what is read. -/
def pzV : Option (Grid × UInt8 × Nat) → Array Value
  | none => qv g00 0 0
  | some (g, b, k) => qv g b k
theorem pzV_qv (o : Option (Grid × UInt8 × Nat)) : ∃ g b k, pzV o = qv g b k := by
  cases o with
  | none => exact ⟨_, _, _, rfl⟩
  | some x => obtain ⟨g, b, k⟩ := x; exact ⟨g, b, k, rfl⟩
theorem pz_notray {l : List UInt8} (n : ByteArray) (z : Int) (h : parse l = none) : pzS l n z = none := by unfold pzS; rw [h]
theorem pz_bad {l : List UInt8} {n : ByteArray} {z : Int} {g : Grid} (h : parse l = some g) (ho : pzOk g n z = false) : pzS l n z = none := by unfold pzS; rw [h]; show (if pzOk g n z then _ else _) = _; rw [ho]; rfl
theorem pz_good {l : List UInt8} {n : ByteArray} {z : Int} {g : Grid} (h : parse l = some g) (ho : pzOk g n z = true) : pzS l n z = some (g, hd n, z.toNat) := by unfold pzS; rw [h]; show (if pzOk g n z then _ else _) = _; rw [ho]; rfl
theorem pz_noname {g : Grid} {n : ByteArray} {z : Int} (h : nameS n = false) : pzOk g n z = false := by unfold pzOk; rw [h]; rfl
theorem pz_noball {g : Grid} {n : ByteArray} {z : Int} (h : cnt g.c (hd n) g.c.length = 0) : pzOk g n z = false := by unfold pzOk; rw [ix_cnt, h]; simp
theorem pz_nocell {g : Grid} {n : ByteArray} {z : Int} (h : inB z g.c.length = false) : pzOk g n z = false := by unfold pzOk; rw [h]; simp
theorem pz_wall {g : Grid} {n : ByteArray} {k : Nat} (h : at0 g.c k = 35) : pzOk g n k = false := by unfold pzOk; rw [Int.toNat_natCast, h]; simp
theorem pz_ok {g : Grid} {n : ByteArray} {k : Nat} (h1 : nameS n = true) (h2 : ¬ cnt g.c (hd n) g.c.length = 0) (h3 : k < g.c.length) (h4 : at0 g.c k ≠ 35) : pzOk g n k = true := by
  unfold pzOk
  have h3' : inB (k : Int) g.c.length = true := inB_true.2 ⟨by omega, by omega⟩
  have h2' : (cnt g.c (hd n) g.c.length == 0) = false := by rw [beq_eq_false_iff_ne]; exact h2
  have h4' : (at0 g.c k == 35) = false := by rw [beq_eq_false_iff_ne]; exact h4
  rw [h1, ix_cnt, h2', h3', Int.toNat_natCast, h4']
  rfl
end Go.Proofs.YtdebiobhmpoiiaaDoor
