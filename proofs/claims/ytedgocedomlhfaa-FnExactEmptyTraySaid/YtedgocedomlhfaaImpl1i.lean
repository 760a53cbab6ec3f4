/-
  What the program's functions that turn and mirror trays return.
-/
import Derived.Test.YtedgocedomlhfaaImpl1h
import Derived.Test.YtedgocedomlhfaaDraws2
import Derived.Test.YtedgocedomlhfaaMir
namespace Go.Proofs.Ytedgocedomlhfaa
open Go.RowKit
theorem Upd.refl (B : Nat) (w : World) : Upd B w w := ⟨rfl, rfl, rfl, rfl, fun _ _ => rfl⟩
theorem Upd.trans {B : Nat} {a b c : World} (h : Upd B a b) (k : Upd B b c) : Upd B a c :=
  ⟨k.os.trans h.os, k.tape.trans h.tape, k.output.trans h.output, h.size.trans k.size, fun j hj => (k.block j hj).trans (h.block j hj)⟩
theorem Upd.drew' (B : Nat) (w : World) : Upd B w w.drew := ⟨rfl, rfl, rfl, rfl, fun _ _ => rfl⟩
theorem Upd.drewN' (B : Nat) (w : World) (n : Nat) : Upd B w (w.drewN n) := ⟨rfl, rfl, rfl, rfl, fun _ _ => rfl⟩
theorem rd_both (l : List UInt8) : (1 ≤ (rdG l).w ∧ 1 ≤ (rdG l).h) ∨ ((rdG l).w = 0 ∧ (rdG l).h = 0) := by
  rcases rd_cases l with ⟨_, hg, _⟩ | ⟨g, hp, hg, _⟩
  · rw [hg]; exact .inr ⟨rfl, rfl⟩
  · rw [hg]; exact .inl ⟨(parse_tray hp).w1, (parse_tray hp).h1⟩
def tuB (l : List UInt8) : ByteArray := txtB (rdG l).h (rdG l).w (tuS (rdG l).w (rdG l).h (rdG l).c)
def miB (l : List UInt8) : ByteArray := txtB (rdG l).w (rdG l).h (miC (rdG l).w (rdG l).h (rdG l).c)
def trB (l : List UInt8) : ByteArray := txtB (rdG l).h (rdG l).w (trC (rdG l).w (rdG l).h (rdG l).c)
end Go.Proofs.Ytedgocedomlhfaa
