/-
  Texts in their order: by the library's sort in the program, by insertion in the model.
-/
import Derived.Test.YtpdmfbhjneodeaaGreatDoorListsT
import Derived.Test.YtpdmfbhjneodeaaGreatDoorBLa
import Derived.Test.YtpdmfbhjneodeaaGreatDoorBTi
import Derived.Test.YtpdmfbhjneodeaaGreatDoorBSp
import Derived.Sort.Walk0
namespace Go.Proofs.YtpdmfbhjneodeaaGreatDoor
open Go.RowKit
theorem perm_eq {α : Type} (le : α → α → Prop) (anti : ∀ a b, le a b → le b a → a = b) : ∀ (l m : List α), l.Perm m → l.Pairwise le → m.Pairwise le → l = m
  | [], m, hp, _, _ => (List.nil_perm.1 hp).symm
  | a :: l, [], hp, _, _ => absurd hp.length_eq (by simp)
  | a :: l, b :: m, hp, hl, hm => by
    obtain ⟨h1, h2⟩ := List.pairwise_cons.1 hl
    obtain ⟨h3, h4⟩ := List.pairwise_cons.1 hm
    have hab : a = b := by
      rcases List.mem_cons.1 (hp.mem_iff.1 (List.mem_cons_self)) with h | h
      · exact h
      · rcases List.mem_cons.1 (hp.mem_iff.2 (List.mem_cons_self)) with h' | h'
        · exact h'.symm
        · exact anti a b (h1 b h') (h3 a h)
    subst hab
    rw [perm_eq le anti l m (List.Perm.cons_inv hp) h2 h4]
/-- Texts in their order. -/
def srtT (L : List (List UInt8)) : List (List UInt8) := L.mergeSort fun x y => decide (x ≤ y)
theorem srtT_perm (L : List (List UInt8)) : (srtT L).Perm L := List.mergeSort_perm _ _
theorem srtT_length (L : List (List UInt8)) : (srtT L).length = L.length := (srtT_perm L).length_eq
theorem srtT_sorted (L : List (List UInt8)) : (srtT L).Pairwise (· ≤ ·) := by
  refine List.Pairwise.imp ?_ (List.pairwise_mergeSort (le := fun x y : List UInt8 => decide (x ≤ y)) (fun a b c h1 h2 => by
    rw [decide_eq_true_eq] at h1 h2 ⊢
    exact List.le_trans h1 h2) (fun a b => by
    rw [Bool.or_eq_true, decide_eq_true_eq, decide_eq_true_eq]
    exact List.le_total a b) L)
  intro a b h
  exact of_decide_eq_true h
theorem srtT_eq {L O : List (List UInt8)} (hp : O.Perm L) (hs : O.Pairwise (· ≤ ·)) : O = srtT L :=
  perm_eq (· ≤ ·) (fun _ _ h1 h2 => List.le_antisymm h1 h2) _ _ (hp.trans (srtT_perm L).symm) hs (srtT_sorted L)
theorem ins_ok {O : List (List UInt8)} {s : List UInt8} {k : Nat} (hO : O.Pairwise (· ≤ ·)) (hk : k ≤ O.length) (hlo : k = 0 ∨ ts O (k - 1) ≤ s) (hhi : ∀ i, k ≤ i → i < O.length → s < ts O i) :
    (O.take k ++ [s] ++ O.drop k).Pairwise (· ≤ ·) ∧ (O.take k ++ [s] ++ O.drop k).Perm (O ++ [s]) := by
  have hsp : O.take k ++ O.drop k = O := List.take_append_drop k O
  have hO' := hO
  rw [← hsp, List.pairwise_append] at hO'
  obtain ⟨p1, p2, p3⟩ := hO'
  have hts : ∀ i (h : i < O.length), ts O i = O[i] := fun i h => by unfold ts; rw [List.getD_eq_getElem?_getD, List.getElem?_eq_getElem h]; rfl
  have lo : ∀ a ∈ O.take k, a ≤ s := fun a ha => by
    rcases hlo with h0 | h0
    · subst h0; simp at ha
    · obtain ⟨i, hi, rfl⟩ := List.getElem_of_mem ha
      rw [List.length_take] at hi
      have hik : i < k := by omega
      rw [List.getElem_take]
      rw [hts (k - 1) (by omega)] at h0
      rcases Nat.lt_or_ge i (k - 1) with h' | h'
      · exact List.le_trans (List.pairwise_iff_getElem.1 hO i (k - 1) (by omega) (by omega) h') h0
      · have : i = k - 1 := by omega
        subst this
        exact h0
  have hi : ∀ b ∈ O.drop k, s ≤ b := fun b hb => by
    obtain ⟨i, hi, rfl⟩ := List.getElem_of_mem hb
    rw [List.length_drop] at hi
    rw [List.getElem_drop]
    have := hhi (k + i) (by omega) (by omega)
    rw [hts (k + i) (by omega)] at this
    exact List.le_iff_lt_or_eq.2 (.inl this)
  refine ⟨?_, ?_⟩
  · rw [List.append_assoc, List.pairwise_append]
    refine ⟨p1, ?_, fun a ha b hb => ?_⟩
    · rw [List.singleton_append, List.pairwise_cons]
      exact ⟨hi, p2⟩
    · rcases List.mem_cons.1 hb with rfl | hb
      · exact lo a ha
      · exact p3 a ha b hb
  · have e1 : (O.take k ++ [s] ++ O.drop k).Perm (O.take k ++ (O.drop k ++ [s])) := by
      rw [List.append_assoc]
      exact List.Perm.append_left _ List.perm_append_comm
    rw [← List.append_assoc, hsp] at e1
    exact e1
theorem gtT_run (P : Program) (T : TypeId) (a b : List UInt8) (c : Bool) (h : decide (b < a) = c) (w : World) : (binOp .gtr T (tx a) (tx b)).run P w = .ok (.bool c) w := by
  subst h
  unfold tx
  rw [binOp_string_gtr]
  simp only [Sem.run_pure]
  congr 2
  rw [bytesLess_eq]
  have e1 : (⟨a.toArray⟩ : ByteArray).toList = a := by simp
  have e2 : (⟨b.toArray⟩ : ByteArray).toList = b := by simp
  rw [e1, e2, Bool.eq_iff_iff, Bool.not_eq_true', Bool.or_eq_false_iff, decide_eq_false_iff_not, beq_eq_false_iff_ne, decide_eq_true_eq]
  constructor
  · intro ⟨h1, h2⟩
    by_cases hlt : b < a
    · exact hlt
    · rcases List.le_iff_lt_or_eq.1 (List.not_lt.1 hlt) with h | h
      · exact absurd h h1
      · exact absurd h h2
  · intro hlt
    refine ⟨fun h => ?_, fun h => ?_⟩
    · exact List.not_lt.2 (List.le_iff_lt_or_eq.2 (.inl h)) hlt
    · exact List.not_lt.2 (List.le_iff_lt_or_eq.2 (.inr h)) hlt
theorem Tryz.strJ : ElemInfo Tryz.prog 47 9 (.string ⟨#[]⟩) 1 16 := ⟨Tryz.underlying47, by kernel_rfl, rfl, by decide⟩
theorem Tryz.bstr1 (s : ByteArray) (w : World) : (Instr.buildSlice 47 1 #[(0, .string s)]).run Tryz.prog w = .ok (.slice (some ⟨w.heap.size, 0, none⟩) 1 1) (w.alloc (.cells #[.string s] 9)) := by kernel_rfl
end Go.Proofs.YtpdmfbhjneodeaaGreatDoor
