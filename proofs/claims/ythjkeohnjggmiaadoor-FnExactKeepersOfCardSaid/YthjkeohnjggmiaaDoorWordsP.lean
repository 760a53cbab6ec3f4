/-
  Plain mathematics: words of directions.
-/
import Derived.Test.YthjkeohnjggmiaaDoorImpl1e
import Derived.Test.YthjkeohnjggmiaaDoorMir
import Derived.Lib.SlTrimSet
namespace Go.Proofs.YthjkeohnjggmiaaDoor
open Go.RowKit
def dirsL : List UInt8 := [117, 114, 100, 108]
def dirB (b : UInt8) : Bool := dirsL.contains b
/-- The text is a word. -/
def wordB (s : ByteArray) : Bool := decide (s.size ≤ 40) && s.data.toList.all dirB
theorem trimS_nil (l cs : List UInt8) : Lib.trimS l cs = [] ↔ l.all (cs.contains ·) = true := by
  unfold Lib.trimS Lib.trimLeftS
  have key : (Lib.trimRightS l cs).all (cs.contains ·) = true ↔ l.all (cs.contains ·) = true := by
    unfold Lib.trimRightS
    have e := List.takeWhile_append_dropWhile (p := (cs.contains ·)) (l := l.reverse)
    have ht : (l.reverse.takeWhile (cs.contains ·)).all (cs.contains ·) = true := List.all_takeWhile
    have h2 : l.reverse.all (cs.contains ·) = ((l.reverse.takeWhile (cs.contains ·)).all (cs.contains ·) && (l.reverse.dropWhile (cs.contains ·)).all (cs.contains ·)) := by
      rw [← List.all_append, e]
    rw [List.all_reverse] at h2 ⊢
    rw [h2, ht, Bool.true_and]
  rw [← key]
  generalize Lib.trimRightS l cs = m
  induction m with
  | nil => simp
  | cons b m ih =>
    rw [List.dropWhile_cons, List.all_cons]
    by_cases h : cs.contains b = true
    · rw [if_pos h, h, Bool.true_and]; exact ih
    · rw [if_neg h]
      simp at h
      simp [h]
theorem str_nil {l : List UInt8} : ((⟨l.toArray⟩ : ByteArray) = ⟨#[]⟩) ↔ l = [] := by
  constructor
  · intro h
    have := congrArg (fun s : ByteArray => s.data.toList) h
    simpa using this
  · rintro rfl; rfl
/-- The number of a direction, -1 for all else. -/
def dI (b : UInt8) : Int := if b = 117 then 0 else if b = 114 then 1 else if b = 100 then 2 else if b = 108 then 3 else -1
theorem dI_neg (b : UInt8) : dI b < 0 ↔ dirB b = false := by
  have h : ∀ n : Fin 256, dI (UInt8.ofNat n.val) < 0 ↔ dirB (UInt8.ofNat n.val) = false := of_decide_eq_true (by kernel_rfl)
  have := h ⟨b.toNat, b.toNat_lt⟩
  simpa using this
theorem dI_index (b : UInt8) : Lib.indexByte [117, 114, 100, 108] b = dI b := by
  have h : ∀ n : Fin 256, Lib.indexByte [117, 114, 100, 108] (UInt8.ofNat n.val) = dI (UInt8.ofNat n.val) := of_decide_eq_true (by kernel_rfl)
  have := h ⟨b.toNat, b.toNat_lt⟩
  simpa using this
theorem dI_lt (b : UInt8) : dI b < 4 := by
  unfold dI; split <;> (try split) <;> (try split) <;> (try split) <;> omega
/-- The number of a text as a direction. -/
def dS (s : ByteArray) : Int := if s.size = 1 then dI (hd s) else -1
/-- A direction turned by k quarters. -/
def rotB (b : UInt8) (k : Nat) : UInt8 := dirsL.getD (((dI b).toNat + k) % 4) 0
theorem byte_sub (s : ByteArray) (i : Nat) (h : i < s.size) : s.extract i (i + 1) = ⟨#[s[i]]⟩ := by
  apply ByteArray.ext
  apply Array.toList_inj.1
  rw [Lib.extract_data, ByteArray.getElem_eq_getElem_data]
  have hl : i < s.data.toList.length := h
  rw [show i + 1 - i = 1 by omega]
  rw [List.drop_eq_getElem_cons hl]
  simp
end Go.Proofs.YthjkeohnjggmiaaDoor
