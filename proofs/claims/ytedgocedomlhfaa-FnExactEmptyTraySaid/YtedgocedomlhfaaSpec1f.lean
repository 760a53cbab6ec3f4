/-
  What the model's functions that change a tray's cells return: one cell put, and all balls taken out.
-/
import Derived.Test.YtedgocedomlhfaaSpec1e
import Derived.Test.YtedgocedomlhfaaImpl1h
namespace Go.Proofs.Ytedgocedomlhfaa
open Go.RowKit
theorem cellsV_set (c : List UInt8) (j : Nat) (b : UInt8) : (cellsV c).set j (byteV b) = cellsV (c.set j b) := by
  unfold cellsV
  rw [List.map_set]
/-- It returns a grid of the model, its cells in new memory. -/
def RetG (T : TypeId) (W H : Int) (c : List UInt8) (w : World) (e : Ending) (w' : World) : Prop :=
  Gr w w' ∧ ∃ sl, e = .returned (.agg (tg W H sl)) ∧ w'.ownsRow w.heap.size T 1 sl c.length (cellsV c)
theorem own_up {w : World} {b0 base : Nat} {e : TypeId} {size : Nat} {v : Value} {n : Nat} {xs : List Value} (hr : w.ownsRow base e size v n xs) (hb : b0 ≤ base) : w.ownsRow b0 e size v n xs := by
  obtain ⟨h1, h2 | ⟨g, cap, cur, rfl, b, c, d⟩⟩ := hr
  · exact ⟨h1, .inl h2⟩
  · exact ⟨h1, .inr ⟨g, cap, cur, rfl, by omega, c, d⟩⟩
theorem tyText_n (W H base n : Nat) (c : List UInt8) (sl : Value) (w : World) (hW1 : 1 ≤ W) (hH1 : 1 ≤ H) (hW : W ≤ 7) (hH : H ≤ 7) (h36 : nn W H ≤ 36) (hlen : c.length = nn W H) (hn : c.length = n) (hown : w.ownsRow base 5 1 sl n (cellsV c)) :
    Calls Try.prog 7 #[.agg (tg W H sl)] w (Ret (.string (txtB W H c)) w) := by
  subst hn
  exact tyText_any W H base c sl w hW1 hH1 (by omega) (by omega) (by omega) hlen hown
end Go.Proofs.Ytedgocedomlhfaa
