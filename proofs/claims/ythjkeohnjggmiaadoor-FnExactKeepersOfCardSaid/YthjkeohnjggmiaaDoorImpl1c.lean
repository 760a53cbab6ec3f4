/-
  What the program's reader of trays returns: a grid exactly for the texts that are trays.
-/
import Derived.Test.YthjkeohnjggmiaaDoorImpl1b
import Derived.Lib.SplitLaws
namespace Go.Proofs.YthjkeohnjggmiaaDoor
open Go.RowKit
theorem splitK_ne (b : UInt8) (hb : b ≠ 47) (l : List UInt8) (k : Nat) : Lib.splitK [47] 0 k (b :: l) = (b :: (Lib.splitK [47] 0 k l).headD []) :: (Lib.splitK [47] 0 k l).tail := by
  cases k with
  | zero => rfl
  | succ k =>
    have e : Lib.index (b :: l) [47] = if Lib.index l [47] == -1 then -1 else Lib.index l [47] + 1 := by
      rw [Lib.index_one, Lib.index_one]
      rw [Lib.indexByte, if_neg (by simpa using hb)]
    have hge : -1 ≤ Lib.index l [47] := by rw [Lib.index_one]; exact Lib.indexByte_ge _ _
    unfold Lib.splitK
    rw [e]
    by_cases h : Lib.index l [47] = -1
    · simp [h]
    · have h1 : ¬ (Lib.index l [47] == -1) = true := by simpa using h
      rw [if_neg h1, if_neg h1]
      have h2 : ¬ (Lib.index l [47] + 1 == -1) = true := by simp; omega
      rw [if_neg h2]
      obtain ⟨i, hi⟩ : ∃ i : Nat, Lib.index l [47] = i := ⟨(Lib.index l [47]).toNat, by omega⟩
      rw [hi]
      have e3 : ((i : Int) + 1).toNat = i + 1 := by omega
      rw [e3]
      simp
theorem splitK_pieces (l : List UInt8) : Lib.splitK [47] 0 (Lib.count l [47]) l = pieces l := by
  induction l with
  | nil => rfl
  | cons b l ih =>
    by_cases hb : b = 47
    · subst hb
      rw [Lib.count_cons_eq, Nat.add_comm, pieces, if_pos rfl]
      have e : Lib.index (47 :: l) [47] = 0 := by rw [Lib.index_one, Lib.indexByte, if_pos (by rfl)]
      unfold Lib.splitK
      rw [e, if_neg (by decide)]
      rw [show (47 :: l).drop ((0 : Int).toNat + [(47 : UInt8)].length) = l from rfl, ih]
      rfl
    · rw [Lib.count_cons_ne b 47 l hb, splitK_ne b hb, ih, pieces, if_neg hb]
theorem pieces_count (s : ByteArray) : (pieces s.data.toList).length = Lib.countB s ⟨#[47]⟩ + 1 := by
  show _ = Lib.count s.data.toList [47] + 1
  rw [Lib.count_one]
  induction s.data.toList with
  | nil => rfl
  | cons b l ih =>
    have hp := pieces_ne l
    rw [pieces, List.count_cons]
    split
    · rename_i hb; simp [hb, ih]
    · rename_i hb
      rw [if_neg (by simpa using hb)]
      cases h : pieces l with
      | nil => exact absurd h hp
      | cons p q => rw [h] at ih; simpa using ih
/-- It returns the rows of a text, in new memory. -/
def RetRows (l : List UInt8) (w : World) (e : Ending) (w' : World) : Prop :=
  ∃ (rows : List ByteArray) (B : Nat), rows.map (·.data.toList) = pieces l ∧ e = .returned (.slice (some ⟨B, 0, none⟩) rows.length rows.length) ∧
    Own w' B (.cells (rows.map Value.string).toArray 9 (0, 0)) ∧ w.heap.size ≤ B ∧ Gr w w'
/-- The variable of the library that the search reads holds some number. -/
def ML (w : World) : Prop := ∃ m : Int, w.cell? ⟨0, 0, none⟩ = some (.int .i64 m)
theorem Gr.ml {w w' : World} (h : Gr w w') (hm : ML w) : ML w' := by obtain ⟨m, hm⟩ := hm; exact ⟨m, h.cell hm⟩
theorem split_any (s : ByteArray) (w : World) (hs : s.size ≤ 1048576) (hm : ML w) : Calls Tryd.prog 79 #[.string s, .string ⟨#[47]⟩] w (RetRows s.data.toList w) := by
  obtain ⟨m, hm⟩ := hm
  refine (Tryd.strings_Split s ⟨#[47]⟩ m w (by omega) hm (by decide)).mono ?_
  rintro e w' ⟨rfl, rfl⟩
  have h := Lib.splitB_data ⟨#[47]⟩ 0 (Lib.countB s ⟨#[47]⟩) s
  have h2 : (Lib.splitB ⟨#[47]⟩ 0 (Lib.countB s ⟨#[47]⟩) s).map (·.data.toList) = pieces s.data.toList := h.trans (splitK_pieces _)
  have h3 : (Lib.splitB ⟨#[47]⟩ 0 (Lib.countB s ⟨#[47]⟩) s).length = Lib.countB s ⟨#[47]⟩ + 1 := by
    have hl := congrArg List.length h2
    rw [List.length_map] at hl
    rw [hl]
    exact pieces_count _
  refine ⟨_, w.heap.size, h2, ?_, Own.new w _, Nat.le_refl _, (Gr.refl w).alloc _⟩
  rw [h3]
end Go.Proofs.YthjkeohnjggmiaaDoor
