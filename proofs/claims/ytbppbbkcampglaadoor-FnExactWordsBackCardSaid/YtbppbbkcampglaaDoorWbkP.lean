/-
  Plain maths of all words of at most n directions without equal neighbours: by levels, and by a queue.
-/
import Derived.Test.YtbppbbkcampglaaDoorListsT
import Derived.Test.YtbppbbkcampglaaDoorBWd
import Derived.Test.YtbppbbkcampglaaDoorDirs
namespace Go.Proofs.YtbppbbkcampglaaDoor
open Go.RowKit
/-- A word that is longer by one of the first j directions. -/
def extTo (w : List UInt8) (j : Nat) : List (List UInt8) := ((List.range j).filter fun d => !(w.getLast? == some (dB d))).map fun d => w ++ [dB d]
theorem extTo_zero (w : List UInt8) : extTo w 0 = [] := rfl
theorem extTo_yes {w : List UInt8} {j : Nat} (h : (w.getLast? == some (dB j)) = false) : extTo w (j + 1) = extTo w j ++ [w ++ [dB j]] := by
  unfold extTo
  rw [List.range_succ, List.filter_append, List.map_append, List.filter_cons_of_pos (by rw [h]; rfl)]
  rfl
theorem extTo_no {w : List UInt8} {j : Nat} (h : (w.getLast? == some (dB j)) = true) : extTo w (j + 1) = extTo w j := by
  unfold extTo
  rw [List.range_succ, List.filter_append, List.map_append, List.filter_cons_of_neg (by rw [h]; simp)]
  simp
def lev : Nat → List (List UInt8)
  | 0 => [[]]
  | k + 1 => (lev k).flatMap fun w => extTo w 4
def allW (n : Nat) : List (List UInt8) := (List.range (n + 1)).flatMap lev
/-- The queue: the f-th word's longer ones are put behind. -/
def runQ (n : Nat) : Nat → Nat → List (List UInt8) → List (List UInt8)
  | 0, _, Q => Q
  | k + 1, f, Q => if (ts Q f).length < n then runQ n k (f + 1) (Q ++ extTo (ts Q f) 4) else Q
theorem runQ_step {n f : Nat} {Q : List (List UInt8)} (hf : f < 200) (h : (ts Q f).length < n) : runQ n (200 - f) f Q = runQ n (200 - (f + 1)) (f + 1) (Q ++ extTo (ts Q f) 4) := by
  rw [show 200 - f = (200 - (f + 1)) + 1 by omega, runQ, if_pos h]
theorem runQ_end {n f : Nat} {Q : List (List UInt8)} (hf : f < 200) (h : ¬ (ts Q f).length < n) : runQ n (200 - f) f Q = Q := by
  rw [show 200 - f = (200 - (f + 1)) + 1 by omega, runQ, if_neg h]
theorem runQ_prefix (n : Nat) : ∀ (k f : Nat) (Q : List (List UInt8)), Q <+: runQ n k f Q := by
  intro k
  induction k with
  | zero => intro f Q; exact List.prefix_refl Q
  | succ k ih =>
    intro f Q
    unfold runQ
    split
    · exact (List.prefix_append Q _).trans (ih _ _)
    · exact List.prefix_refl Q
set_option maxRecDepth 100000 in
theorem runQ_all {n : Nat} (hn : n ≤ 4) : runQ n 200 0 [[]] = allW n := by
  have h : ∀ m ∈ [0, 1, 2, 3, 4], runQ m 200 0 [[]] = allW m := by decide +kernel
  exact h n (by simp; omega)
set_option maxRecDepth 100000 in
theorem allW_len {n : Nat} (hn : n ≤ 4) : (allW n).length ≤ 161 := by
  have h : ∀ m ∈ [0, 1, 2, 3, 4], (allW m).length ≤ 161 := by decide +kernel
  exact h n (by simp; omega)
set_option maxRecDepth 100000 in
theorem allW_word {n : Nat} (hn : n ≤ 4) : ∀ w ∈ allW n, w.length ≤ 4 ∧ w.all dirB = true := by
  have h : ∀ m ∈ [0, 1, 2, 3, 4], ∀ w ∈ allW m, w.length ≤ 4 ∧ w.all dirB = true := by decide +kernel
  exact h n (by simp; omega)
theorem allW_b {n : Nat} (hn : n ≤ 4) {w : List UInt8} (hw : w ∈ allW n) : wordB ⟨w.toArray⟩ = true := by
  obtain ⟨h1, h2⟩ := allW_word hn w hw
  unfold wordB
  rw [Bool.and_eq_true, decide_eq_true_eq]
  exact ⟨by show w.toArray.size ≤ 40; rw [List.size_toArray]; omega, by simpa using h2⟩
theorem extTo_pos (w : List UInt8) : 1 ≤ (extTo w 4).length := by
  have key : ∀ d, d < 4 → (w.getLast? == some (dB d)) = false → 1 ≤ (extTo w 4).length := fun d hd h => by
    have : w ++ [dB d] ∈ extTo w 4 := by
      unfold extTo
      exact List.mem_map.2 ⟨d, List.mem_filter.2 ⟨List.mem_range.2 hd, by rw [h]; rfl⟩, rfl⟩
    exact List.length_pos_of_mem this
  by_cases h : (w.getLast? == some (dB 0)) = true
  · refine key 1 (by omega) ?_
    rw [beq_iff_eq] at h
    rw [h]
    decide
  · exact key 0 (by omega) (by simpa using h)
theorem extTo_le (w : List UInt8) (j : Nat) : (extTo w j).length ≤ j := by
  unfold extTo
  rw [List.length_map]
  have := List.length_filter_le (fun d => !(w.getLast? == some (dB d))) (List.range j)
  rw [List.length_range] at this
  exact this
/-- What holds of the queue on its way. -/
structure QI (n f : Nat) (Q : List (List UInt8)) : Prop where
  lt : f < Q.length
  run : runQ n (200 - f) f Q = allW n
theorem QI.start {n : Nat} (hn : n ≤ 4) : QI n 0 [[]] := ⟨Nat.zero_lt_one, runQ_all hn⟩
theorem QI.pre {n f : Nat} {Q : List (List UInt8)} (h : QI n f Q) : Q <+: allW n := h.run ▸ runQ_prefix n _ _ _
theorem QI.len {n f : Nat} {Q : List (List UInt8)} (hn : n ≤ 4) (h : QI n f Q) : Q.length ≤ 161 := Nat.le_trans h.pre.length_le (allW_len hn)
theorem QI.word {n f : Nat} {Q : List (List UInt8)} (hn : n ≤ 4) (h : QI n f Q) {j : Nat} (hj : j < Q.length) : (ts Q j).length ≤ 4 := by
  have hm : ts Q j ∈ Q := by
    unfold ts
    rw [List.getD_eq_getElem?_getD, List.getElem?_eq_getElem hj]
    exact List.getElem_mem _
  exact (allW_word hn _ (h.pre.subset hm)).1
theorem QI.next {n f : Nat} {Q : List (List UInt8)} (hn : n ≤ 4) (h : QI n f Q) (hl : (ts Q f).length < n) : QI n (f + 1) (Q ++ extTo (ts Q f) 4) := by
  have := h.lt
  have := h.len hn
  refine ⟨?_, ?_⟩
  · have := extTo_pos (ts Q f)
    rw [List.length_append]
    omega
  · rw [← runQ_step (by omega) hl]
    exact h.run
theorem QI.done {n f : Nat} {Q : List (List UInt8)} (hn : n ≤ 4) (h : QI n f Q) (hl : ¬ (ts Q f).length < n) : Q = allW n := by
  have := h.lt
  have := h.len hn
  rw [← h.run, runQ_end (by omega) hl]
theorem ts_app (Q M : List (List UInt8)) {j : Nat} (hj : j < Q.length) : ts (Q ++ M) j = ts Q j := by
  unfold ts
  rw [List.getD_eq_getElem?_getD, List.getD_eq_getElem?_getD, List.getElem?_append_left hj]
theorem suffix_one (w : List UInt8) (b : UInt8) : Lib.hasSuffix w [b] = (w.getLast? == some b) := by
  unfold Lib.hasSuffix
  rw [Bool.eq_iff_iff, beq_iff_eq]
  rw [List.isSuffixOf_iff_suffix]
  constructor
  · rintro ⟨t, rfl⟩
    simp
  · intro h
    cases hr : w.reverse with
    | nil => rw [List.reverse_eq_nil_iff] at hr; rw [hr] at h; cases h
    | cons x xs =>
      have : w = xs.reverse ++ [x] := by rw [← List.reverse_reverse w, hr]; simp
      rw [this] at h ⊢
      have hx : x = b := by simpa using h
      rw [hx]
      exact ⟨_, rfl⟩
end Go.Proofs.YtbppbbkcampglaaDoor
