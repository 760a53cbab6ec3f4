/-
  What the model's reader of trays returns: a grid exactly for the texts that are trays.
-/
import Derived.Test.YtedgocedomlhfaaSpec1a
import Derived.Test.YtedgocedomlhfaaScan
namespace Go.Proofs.Ytedgocedomlhfaa
open Go.RowKit
/-- What the model's reader leaves. -/
def RetTy (T : TypeId) (l : List UInt8) (w : World) (e : Ending) (w' : World) : Prop :=
  Gr w w' ∧ ((parse l = none ∧ e = .returned (.tuple #[.agg (tg 0 0 (.slice none 0 0)), .bool false])) ∨
    ∃ (g : Grid) (sl : Value), parse l = some g ∧ e = .returned (.tuple #[.agg (tg g.w g.h sl), .bool true]) ∧ w'.ownsRow w.heap.size T 1 sl g.c.length (cellsV g.c))
theorem byte_get (s : ByteArray) (i : Nat) (h : i < s.size) : s.data.toList[i]? = some s[i] := by
  simp [ByteArray.getElem_eq_getElem_data]
theorem isome_ne {b : UInt8} (h : b ≠ 47) : ((b.toNat : Int) != 47) = true := by
  rw [bne_iff_ne]; intro e; exact h (UInt8.toNat_inj.1 (by simp; omega))
end Go.Proofs.Ytedgocedomlhfaa
