/-
  What the program's functions on single cells and on the text of a grid return.
-/
import Derived.Test.YthjkeohnjggmiaaDoorImpl1b
import Derived.Test.YthjkeohnjggmiaaDoorQTail
import Derived.Test.YthjkeohnjggmiaaDoorText
import Derived.Test.YthjkeohnjggmiaaDoorShelf
namespace Go.Proofs.YthjkeohnjggmiaaDoor
open Go.RowKit
/-- The first byte of a text. -/
def hd (s : ByteArray) : UInt8 := s.data.toList.headD 0
theorem one_of (s : ByteArray) (h : s.size = 1) : s = ⟨#[hd s]⟩ := by
  obtain ⟨⟨l⟩⟩ := s
  have h' : l.length = 1 := h
  match l, h' with
  | [b], _ => rfl
theorem hd_one (b : UInt8) : hd ⟨#[b]⟩ = b := rfl
/-- The text is one cell. -/
def oneB (s : ByteArray) : Bool := decide (s.size = 1) && isCellB (hd s)
def isNameB (b : UInt8) : Bool := 97 ≤ b && b ≤ 102
def nameS (s : ByteArray) : Bool := decide (s.size = 1) && isNameB (hd s)
theorem index_name (b : UInt8) : (Lib.indexByte [97, 98, 99, 100, 101, 102] b < 0) ↔ isNameB b = false := by
  have h : ∀ n : Fin 256, (Lib.indexByte [97, 98, 99, 100, 101, 102] (UInt8.ofNat n.val) < 0) ↔ isNameB (UInt8.ofNat n.val) = false := of_decide_eq_true (by kernel_rfl)
  have := h ⟨b.toNat, b.toNat_lt⟩
  simpa using this
theorem dec_index {x : Int} {b : Bool} (h : x < 0 ↔ b = false) : decide (0 ≤ x) = b := by
  cases b
  · have := h.2 rfl
    simpa using this
  · have : ¬ x < 0 := fun e => by have := h.1 e; cases this
    simpa using this
theorem s_idx0 {P : Program} {T : TypeId} (hu : P.underlying T = some .string) (b : UInt8) (w : World) : (Instr.index T (.string ⟨#[b]⟩) (.int .i64 0)).run P w = .ok (.int .u8 b.toNat) w := by
  have h := run_index_string (P := P) w T ⟨#[b]⟩ .i64 0 hu
  rw [h, dif_pos ⟨Int.le_refl 0, by show (0 : Int) < ((1 : Nat) : Int); decide⟩]
  rfl
end Go.Proofs.YthjkeohnjggmiaaDoor
