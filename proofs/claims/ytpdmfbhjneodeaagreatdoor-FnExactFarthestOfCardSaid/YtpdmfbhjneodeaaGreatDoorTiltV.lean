/-
  A tray and a direction read: in the program and in the model; and a tray tilted, with the law.
-/
import Derived.Test.YtpdmfbhjneodeaaGreatDoorBTq
import Derived.Test.YtpdmfbhjneodeaaGreatDoorBWd
namespace Go.Proofs.YtpdmfbhjneodeaaGreatDoor
open Go.RowKit
def dtOk (l : List UInt8) (dir : ByteArray) : Bool := rdOk l && dirOk dir
theorem dt_cases (l : List UInt8) (dir : ByteArray) : (dtOk l dir = false) ∨ ∃ g d, parse l = some g ∧ rdG l = g ∧ rdOk l = true ∧ d < 4 ∧ dir = ⟨#[dB d]⟩ ∧ dS dir = ((d : Nat) : Int) ∧ dirOk dir = true ∧ dtOk l dir = true := by
  unfold dtOk
  rcases rd_cases l with ⟨_, _, hk⟩ | ⟨g, hp, hg, hk⟩
  · left; rw [hk]; rfl
  · cases hd : dirOk dir
    · left; rw [Bool.and_false]
    · obtain ⟨d, h4, e1, e2⟩ := dir_yes hd
      exact .inr ⟨g, d, hp, hg, hk, h4, e1, e2, rfl, by rw [hk]; rfl⟩
theorem cel_of {l : List UInt8} {g : Grid} (h : parse l = some g) : Cel g ∧ 1 ≤ g.w ∧ 1 ≤ g.h ∧ 0 < g.c.length := by
  have ht := parse_tray h
  exact ⟨⟨ht.w7, ht.h7, ht.n36, ht.len, ht.cells⟩, ht.w1, ht.h1, by rw [ht.len]; exact Nat.mul_pos ht.w1 ht.h1⟩
theorem results_row_two {P : Program} {fn : Func} {p q r : Tmp} {T : TypeId} (h : fn.results = #[.cell p T, .tmp q, .tmp r]) (tmps : Array Value) (w : World) (B : Nat) (t : TypeId) (cs : Array Value) (d : TypeDesc)
    (hp : tmps.getD p undef = .pointer (some ⟨B, 0, none⟩)) (hg : Blk w B cs t)
    (hu : P.underlying T = some d) (hd : (match d with | .struct _ | .array _ _ => true | _ => false) = true) (hi : (P.info? T).map (·.size) = some cs.size) :
    (results fn tmps).run P w = .ok (.tuple #[.agg cs, tmps.getD q undef, tmps.getD r undef]) w := by
  have hp' : tmps[p]?.getD undef = .pointer (some ⟨B, 0, none⟩) := by simpa using hp
  simp [results, h, hp', asAddr, run_loadVar_row w B t T cs (0, 0) d hg hu hd hi]
/-- The text of a tray tilted. -/
def ttG (l : List UInt8) (dir : ByteArray) : Grid := tiltG (dS dir).toNat (rdG l)
def ttB (l : List UInt8) (dir : ByteArray) : ByteArray := if dtOk l dir then txtG (ttG l dir) else ⟨#[]⟩
theorem one_word {w w' : World} {B : Nat} {d : Nat} {e : TypeId} (h : New w w' B #[.int .u8 (dB d).toNat] e) : WordAt w' (.slice (some ⟨B, 0, none⟩) 1 1) [d] :=
  ⟨_, 1, rfl, fun j hj => by
    obtain rfl : j = 0 := by simpa using hj
    exact ⟨B, 0, rfl, Blk.cell h.blk 0⟩⟩
end Go.Proofs.YtpdmfbhjneodeaaGreatDoor
