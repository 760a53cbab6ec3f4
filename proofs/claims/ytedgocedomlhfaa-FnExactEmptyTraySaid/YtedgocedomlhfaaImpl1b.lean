/-
  What the program's reader of trays returns: a grid exactly for the texts that are trays.
-/
import Derived.Test.YtedgocedomlhfaaImpl1a
namespace Go.Proofs.Ytedgocedomlhfaa
open Go.RowKit
def cellText : ByteArray := ⟨#[35, 46, 111, 97, 98, 99, 100, 101, 102]⟩
theorem index_cell (b : UInt8) : (Lib.indexByte [35, 46, 111, 97, 98, 99, 100, 101, 102] b < 0) ↔ isCellB b = false := by
  have h : ∀ n : Fin 256, (Lib.indexByte [35, 46, 111, 97, 98, 99, 100, 101, 102] (UInt8.ofNat n.val) < 0) ↔ isCellB (UInt8.ofNat n.val) = false := of_decide_eq_true (by kernel_rfl)
  have := h ⟨b.toNat, b.toNat_lt⟩
  simpa using this
def nameB (j : Nat) : UInt8 := UInt8.ofNat (97 + j)
theorem once_iff (c : List UInt8) : onceB c = true ↔ ∀ j, j < 6 → c.count (nameB j) ≤ 1 := by
  have e : onceB c = (List.range 6).all fun j => decide (c.count (nameB j) ≤ 1) := rfl
  rw [e]
  simp only [List.all_eq_true, List.mem_range, decide_eq_true_eq]
theorem cnt_count (c : List UInt8) (b : UInt8) (k : Nat) (h : k ≤ c.length) : cnt c b k = (c.take k).count b := by
  induction k with
  | zero => rfl
  | succ k ih =>
    rw [cnt, ih (by omega), List.take_add_one, List.count_append]
    have : c[k]? = some (at0 c k) := by
      unfold at0
      rw [List.getElem?_eq_getElem (by omega)]
      simp [List.getD, List.getElem?_eq_getElem (show k < c.length by omega)]
    rw [this]
    simp only [Option.toList, List.count_cons, List.count_nil, beq_iff_eq, Nat.zero_add]
theorem cnt_all (c : List UInt8) (b : UInt8) : cnt c b c.length = c.count b := by
  rw [cnt_count c b _ (Nat.le_refl _), List.take_length]
theorem all_at0 (c : List UInt8) (p : UInt8 → Bool) : c.all p = true ↔ ∀ j, j < c.length → p (at0 c j) = true := by
  rw [List.all_eq_true]
  constructor
  · intro h j hj
    refine h _ ?_
    unfold at0
    simp [List.getD, List.getElem?_eq_getElem hj]
  · intro h b hb
    obtain ⟨j, hj, rfl⟩ := List.getElem_of_mem hb
    have := h j hj
    unfold at0 at this
    simpa [List.getD, List.getElem?_eq_getElem hj] using this
def goodC (c : List UInt8) : Bool := c.all isCellB && onceB c
end Go.Proofs.Ytedgocedomlhfaa
