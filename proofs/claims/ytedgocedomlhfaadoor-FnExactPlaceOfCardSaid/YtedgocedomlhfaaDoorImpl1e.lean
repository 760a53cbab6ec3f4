/-
  What the program's functions on single cells and on the text of a grid return.
-/
import Derived.Test.YtedgocedomlhfaaDoorImpl1b
import Derived.Test.YtedgocedomlhfaaDoorQTail
import Derived.Test.YtedgocedomlhfaaDoorText
import Derived.Test.YtedgocedomlhfaaDoorShelf
namespace Go.Proofs.YtedgocedomlhfaaDoor
open Go.RowKit
/-- The first byte of a text. -/
def hd (s : ByteArray) : UInt8 := s.data.toList.headD 0
theorem one_of (s : ByteArray) (h : s.size = 1) : s = ⟨#[hd s]⟩ := by
  obtain ⟨⟨l⟩⟩ := s
  have h' : l.length = 1 := h
  match l, h' with
  | [b], _ => rfl
theorem hd_one (b : UInt8) : hd ⟨#[b]⟩ = b := rfl
/-- The text is one cell. -/
def oneB (s : ByteArray) : Bool := decide (s.size = 1) && isCellB (hd s)
def isNameB (b : UInt8) : Bool := 97 ≤ b && b ≤ 102
def nameS (s : ByteArray) : Bool := decide (s.size = 1) && isNameB (hd s)
theorem index_name (b : UInt8) : (Lib.indexByte [97, 98, 99, 100, 101, 102] b < 0) ↔ isNameB b = false := by
  have h : ∀ n : Fin 256, (Lib.indexByte [97, 98, 99, 100, 101, 102] (UInt8.ofNat n.val) < 0) ↔ isNameB (UInt8.ofNat n.val) = false := of_decide_eq_true (by kernel_rfl)
  have := h ⟨b.toNat, b.toNat_lt⟩
  simpa using this
theorem dec_index {x : Int} {b : Bool} (h : x < 0 ↔ b = false) : decide (0 ≤ x) = b := by
  cases b
  · have := h.2 rfl
    simpa using this
  · have : ¬ x < 0 := fun e => by have := h.1 e; cases this
    simpa using this
theorem s_idx0 {P : Program} {T : TypeId} (hu : P.underlying T = some .string) (b : UInt8) (w : World) : (Instr.index T (.string ⟨#[b]⟩) (.int .i64 0)).run P w = .ok (.int .u8 b.toNat) w := by
  have h := run_index_string (P := P) w T ⟨#[b]⟩ .i64 0 hu
  rw [h, dif_pos ⟨Int.le_refl 0, by show (0 : Int) < ((1 : Nat) : Int); decide⟩]
  rfl
set_option maxHeartbeats 400000 in
theorem isCell_any (s : ByteArray) (w : World) : Calls Tryd.prog 40 #[.string s] w fun e w' => e = .returned (.bool (oneB s)) ∧ w = w' := by
  by_cases h : s.size = 1
  · have hs := one_of s h
    obtain ⟨b, hb⟩ : ∃ b, hd s = b := ⟨_, rfl⟩
    rw [hb] at hs
    subst hs
    have HV := hidI (show decide (0 ≤ Lib.indexByte [35, 46, 111, 97, 98, 99, 100, 101, 102] b) = oneB ⟨#[b]⟩ from (dec_index (index_cell b)).trans (by simp [oneB, hd, ByteArray.size]))
    clear h hb
    go_enter Tryd.func40, Tryd.ntmps40
    go_wp2_with (go_at_call 62; refine (Tryd.strings_Contains_one _ _ _).mono ?_; rintro e wSame ⟨rfl, rfl⟩)
    go_ret
    exact ⟨ret_bool HV.out, rfl⟩
  · have HV := hidI (show oneB s = false from by unfold oneB; rw [decide_eq_false h]; rfl)
    have hn : ((s.size : Int) == 1) = false := by rw [beq_eq_false_iff_ne]; omega
    clear h
    go_enter Tryd.func40, Tryd.ntmps40
    go_wp2
    go_ret
    exact ⟨ret_bool HV.out.symm, rfl⟩
set_option maxHeartbeats 400000 in
theorem isName_any (s : ByteArray) (w : World) : Calls Tryd.prog 47 #[.string s] w fun e w' => e = .returned (.bool (nameS s)) ∧ w = w' := by
  by_cases h : s.size = 1
  · have hs := one_of s h
    obtain ⟨b, hb⟩ : ∃ b, hd s = b := ⟨_, rfl⟩
    rw [hb] at hs
    subst hs
    have HV := hidI (show decide (0 ≤ Lib.indexByte [97, 98, 99, 100, 101, 102] b) = nameS ⟨#[b]⟩ from (dec_index (index_name b)).trans (by simp [nameS, hd, ByteArray.size]))
    clear h hb
    go_enter Tryd.func47, Tryd.ntmps47
    go_wp2_with (go_at_call 62; refine (Tryd.strings_Contains_one _ _ _).mono ?_; rintro e wSame ⟨rfl, rfl⟩)
    go_ret
    exact ⟨ret_bool HV.out, rfl⟩
  · have HV := hidI (show nameS s = false from by unfold nameS; rw [decide_eq_false h]; rfl)
    have hn : ((s.size : Int) == 1) = false := by rw [beq_eq_false_iff_ne]; omega
    clear h
    go_enter Tryd.func47, Tryd.ntmps47
    go_wp2
    go_ret
    exact ⟨ret_bool HV.out.symm, rfl⟩
end Go.Proofs.YtedgocedomlhfaaDoor
