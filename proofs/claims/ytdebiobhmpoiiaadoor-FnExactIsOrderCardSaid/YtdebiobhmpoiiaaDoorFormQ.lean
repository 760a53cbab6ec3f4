/-
  Plain mathematics of forms: free ways, cells that can be added, and what the functions on forms return. No program is spoken of.
-/
import Derived.Test.YtdebiobhmpoiiaaDoorFormP
namespace Go.Proofs.YtdebiobhmpoiiaaDoor
open Go.RowKit
/-- A cell has a free way in a direction: all cells from it on against the direction are free. -/
def frB (W H : Nat) (c : List UInt8) (d i : Nat) : Bool := (ln W H c (opd d) i).all fun j => at0 c j == 46
/-- .. if all looked at so far were. -/
theorem fr_stop {W H : Nat} {c : List UInt8} {d i : Nat} (h : ¬ at0 c i = 46) : frB W H c d i = false := by
  unfold frB
  have hm := ln_self (W := W) (H := H) (c := c) (opd_lt d) i
  rw [← Bool.not_eq_true, List.all_eq_true]
  intro ha
  exact h (by simpa using ha i hm)
theorem fr_none {W H : Nat} {c : List UInt8} {d i : Nat} (h : at0 c i = 46) (hn : nx W H c (opd d) i = none) : frB W H c d i = true := by
  unfold frB
  rw [ln_none hn]
  simp [h]
theorem fr_some {W H : Nat} {c : List UInt8} {d i j : Nat} (h : at0 c i = 46) (hn : nx W H c (opd d) i = some j) : frB W H c d i = frB W H c d j := by
  unfold frB
  rw [ln_some (opd_lt d) hn, List.all_cons]
  simp [h]
theorem fr_free {W H : Nat} {c : List UInt8} {d i : Nat} (h : frB W H c d i = true) : at0 c i = 46 := by
  refine Classical.byContradiction fun hn => ?_
  rw [fr_stop hn] at h
  cases h
/-- The first k directions in which a cell has a free way. -/
def wyL (W H : Nat) (c : List UInt8) (i : Nat) : Nat → List UInt8
  | 0 => []
  | k + 1 => if frB W H c k i = true then wyL W H c i k ++ [dB k] else wyL W H c i k
theorem wyL_length (W H : Nat) (c : List UInt8) (i k : Nat) : (wyL W H c i k).length ≤ k := by
  induction k with
  | zero => exact Nat.le_refl _
  | succ k ih => unfold wyL; split <;> (try rw [List.length_append, List.length_singleton]) <;> omega
theorem wyL_nil {W H : Nat} {c : List UInt8} {i k : Nat} : wyL W H c i k = [] ↔ ∀ d, d < k → frB W H c d i = false := by
  induction k with
  | zero => exact ⟨fun _ d hd => absurd hd (Nat.not_lt_zero _), fun _ => rfl⟩
  | succ k ih =>
    unfold wyL
    cases h : frB W H c k i with
    | true =>
      rw [if_pos rfl]
      constructor
      · intro e; simp at e
      · intro e; have := e k (by omega); rw [h] at this; cases this
    | false =>
      rw [if_neg (by decide), ih]
      constructor
      · intro e d hd
        rcases Nat.lt_or_ge d k with h1 | h1
        · exact e d h1
        · obtain rfl : d = k := by omega
          exact h
      · exact fun e d hd => e d (by omega)
/-- The first direction, below k, with which a cell can be added: -1 if there is none. -/
def wyN (W H : Nat) (c : List UInt8) (i : Nat) : Nat → Int
  | 0 => -1
  | k + 1 => if 0 ≤ wyN W H c i k then wyN W H c i k else if frB W H c k i = true then (k : Int) else -1
theorem wyN_neg {W H : Nat} {c : List UInt8} {i k : Nat} : wyN W H c i k < 0 ↔ ∀ d, d < k → frB W H c d i = false := by
  induction k with
  | zero => exact ⟨fun _ d hd => absurd hd (Nat.not_lt_zero _), fun _ => by show (-1 : Int) < 0; decide⟩
  | succ k ih =>
    unfold wyN
    by_cases h0 : 0 ≤ wyN W H c i k
    · rw [if_pos h0]
      constructor
      · intro e; omega
      · intro e; exact ih.2 fun d hd => e d (by omega)
    · rw [if_neg h0]
      have h1 := ih.1 (by omega)
      cases h : frB W H c k i with
      | true =>
        rw [if_pos rfl]
        constructor
        · intro e; omega
        · intro e; have := e k (by omega); rw [h] at this; cases this
      | false =>
        rw [if_neg (by decide)]
        refine ⟨fun _ d hd => ?_, fun _ => by decide⟩
        rcases Nat.lt_or_ge d k with h2 | h2
        · exact h1 d h2
        · obtain rfl : d = k := by omega
          exact h
def besB (W H : Nat) (c : List UInt8) (i : Nat) : Bool := (nearL W H i).any fun j => okB c j
theorem bes_impl {W H i : Nat} {c : List UInt8} (hl : c.length = nn W H) (hc : ∀ j, j < c.length → isCellB (at0 c j) = true) (hi : i < nn W H) : ((nearL W H i).any fun j => ballB (at0 c j)) = besB W H c i := by
  unfold besB
  rw [Bool.eq_iff_iff, List.any_eq_true, List.any_eq_true]
  constructor
  · rintro ⟨j, hj, h⟩
    exact ⟨j, hj, by unfold okB; rw [← ball_cell (hc j (by rw [hl]; exact nearL_lt hi j hj))]; exact h⟩
  · rintro ⟨j, hj, h⟩
    exact ⟨j, hj, by rw [ball_cell (hc j (by rw [hl]; exact nearL_lt hi j hj))]; exact h⟩
/-- A cell can be added. -/
def canB (W H : Nat) (c : List UInt8) (i : Nat) : Bool := besB W H c i && decide (wyL W H c i 4 ≠ [])
theorem can_way {W H : Nat} {c : List UInt8} {i : Nat} : wyL W H c i 4 ≠ [] ↔ 0 ≤ wyN W H c i 4 := by
  have h1 := wyL_nil (W := W) (H := H) (c := c) (i := i) (k := 4)
  have h2 := wyN_neg (W := W) (H := H) (c := c) (i := i) (k := 4)
  rw [Ne, h1, ← h2]
  omega
theorem can_free {W H : Nat} {c : List UInt8} {i : Nat} (h : canB W H c i = true) : at0 c i = 46 := by
  unfold canB at h
  rw [Bool.and_eq_true, decide_eq_true_eq, Ne, wyL_nil] at h
  refine Classical.byContradiction fun hn => h.2 fun d _ => fr_stop hn
/-! texts -/
def fmOk (l : List UInt8) : Bool := rdOk l && foG (rdG l).w (rdG l).h (rdG l).c
def fmG (l : List UInt8) : Grid := if fmOk l then rdG l else ⟨0, 0, []⟩
/-- What a form's grid is. -/
structure FormG (g : Grid) : Prop where
  t : Tray g
  all : ∀ i, i < g.c.length → foB (at0 g.c i) = true
  fo : isFo g.w g.h g.c = true
theorem fm_cases (l : List UInt8) : (fmOk l = false ∧ fmG l = ⟨0, 0, []⟩) ∨ ∃ g, parse l = some g ∧ rdG l = g ∧ rdOk l = true ∧ fmOk l = true ∧ fmG l = g ∧ FormG g := by
  cases h : fmOk l with
  | false => exact .inl ⟨rfl, by unfold fmG; rw [h]; rfl⟩
  | true =>
    refine .inr ?_
    have h' := h
    unfold fmOk at h'
    rw [Bool.and_eq_true] at h'
    rcases rd_cases l with ⟨_, _, hk⟩ | ⟨g, hp, hg, hk⟩
    · rw [hk] at h'; cases h'.1
    · rw [hg] at h'
      have ht := parse_tray hp
      have h2 := h'.2
      unfold foG at h2
      rw [Bool.and_eq_true, foAll_iff] at h2
      exact ⟨g, hp, hg, hk, rfl, by unfold fmG; rw [h, hg]; rfl, ht, fun i hi => h2.1 i (by rw [← ht.len]; exact hi), h2.2⟩
theorem FormG.nb {g : Grid} (h : FormG g) : 1 ≤ (ballsTo isBallB g.c (nn g.w g.h)).length ∧ (ballsTo isBallB g.c (nn g.w g.h)).length ≤ 10 := by
  have := h.fo
  unfold isFo at this
  rw [Bool.and_eq_true, Bool.and_eq_true, decide_eq_true_eq, decide_eq_true_eq] at this
  exact this.1
theorem FormG.foG {g : Grid} (h : FormG g) : foG g.w g.h g.c = true := by
  unfold Go.Proofs.YtdebiobhmpoiiaaDoor.foG
  rw [Bool.and_eq_true, foAll_iff]
  exact ⟨fun i hi => h.all i (by rw [h.t.len]; exact hi), h.fo⟩
theorem FormG.cells {g : Grid} (h : FormG g) : ∀ i, i < g.c.length → isCellB (at0 g.c i) = true := h.t.cells
/-- One cell put: still free cells and balls without names. -/
theorem fo_set {c : List UInt8} {i : Nat} {b : UInt8} (hb : foB b = true) (h : ∀ j, j < c.length → foB (at0 c j) = true) : ∀ j, j < (c.set i b).length → foB (at0 (c.set i b) j) = true := by
  intro j hj
  rw [List.length_set] at hj
  rcases Nat.lt_or_ge i c.length with hi | hi
  · rw [at0_set c i b j hi]
    split
    · exact hb
    · exact h j hj
  · rw [List.set_eq_of_length_le hi]
    exact h j hj
/-- A cell with a text is asked. -/
def fwOk (l : List UInt8) (x : Int) (b : UInt8) : Bool := fmOk l && inB x (nn (rdG l).w (rdG l).h) && decide (at0 (rdG l).c x.toNat = b)
def fwG (l : List UInt8) (x : Int) (b : UInt8) : Grid := if fwOk l x b then rdG l else ⟨0, 0, []⟩
theorem fw_cases (l : List UInt8) (x : Int) (b : UInt8) : (fwOk l x b = false ∧ fwG l x b = ⟨0, 0, []⟩) ∨ ∃ g i, parse l = some g ∧ rdG l = g ∧ fmOk l = true ∧ FormG g ∧ x = (i : Nat) ∧ i < nn g.w g.h ∧ at0 g.c i = b ∧ fwOk l x b = true ∧ fwG l x b = g := by
  cases h : fwOk l x b with
  | false => exact .inl ⟨rfl, by unfold fwG; rw [h]; rfl⟩
  | true =>
    refine .inr ?_
    have h' := h
    unfold fwOk at h'
    rw [Bool.and_eq_true, Bool.and_eq_true, decide_eq_true_eq, inB_true] at h'
    obtain ⟨⟨h1, h2, h3⟩, h4⟩ := h'
    rcases fm_cases l with ⟨hk, _⟩ | ⟨g, hp, hg, hk, hf, hfg, F⟩
    · rw [hk] at h1; cases h1
    · rw [hg] at h3 h4
      exact ⟨g, x.toNat, hp, hg, hf, F, by omega, by omega, h4, rfl, by unfold fwG; rw [h, hg]; rfl⟩
def cfL (l : List UInt8) : List Int := ballsTo isBallB (fmG l).c (nn (fmG l).w (fmG l).h)
def tfB (l : List UInt8) : ByteArray := txtB (fmG l).h (fmG l).w (tuS (fmG l).w (fmG l).h (fmG l).c)
/-- FreeWays. -/
def fyB (l : List UInt8) (x : Int) : ByteArray := if fwOk l x 46 then mkS (wyL (rdG l).w (rdG l).h (rdG l).c x.toNat 4) else ⟨#[]⟩
/-- CanAdd. -/
def caK (l : List UInt8) (x : Int) (s : ByteArray) : Bool := fmOk l && inB x (nn (rdG l).w (rdG l).h) && dirOk s
def caV (l : List UInt8) (x : Int) (s : ByteArray) : Bool := caK l x s && (besB (rdG l).w (rdG l).h (rdG l).c x.toNat && frB (rdG l).w (rdG l).h (rdG l).c (dS s).toNat x.toNat)
/-- AddCell. -/
def acOk (l : List UInt8) (x : Int) : Bool := fwOk l x 46 && canB (rdG l).w (rdG l).h (rdG l).c x.toNat && foG (rdG l).w (rdG l).h ((rdG l).c.set x.toNat 111)
def acB (l : List UInt8) (x : Int) : ByteArray := if acOk l x then txtB (rdG l).w (rdG l).h ((rdG l).c.set x.toNat 111) else ⟨#[]⟩
/-- TakeCell. -/
def tkC (W H : Nat) (c : List UInt8) (i : Nat) : Bool := decide (at0 c i = 111) && (canB W H (c.set i 46) i && foG W H (c.set i 46))
def tkOk (l : List UInt8) (x : Int) : Bool := fmOk l && inB x (nn (rdG l).w (rdG l).h) && tkC (rdG l).w (rdG l).h (rdG l).c x.toNat
def tkB (l : List UInt8) (x : Int) : ByteArray := if tkOk l x then txtB (rdG l).w (rdG l).h ((rdG l).c.set x.toNat 46) else ⟨#[]⟩
/-- LastCells. -/
def laTo (W H : Nat) (c : List UInt8) : Nat → List Int
  | 0 => []
  | k + 1 => if tkC W H c k = true then laTo W H c k ++ [(k : Int)] else laTo W H c k
theorem laTo_le (W H : Nat) (c : List UInt8) (k : Nat) : (laTo W H c k).length ≤ k := by
  induction k with
  | zero => exact Nat.le_refl _
  | succ k ih =>
    unfold laTo
    split
    · rw [List.length_append]; exact Nat.succ_le_succ ih
    · omega
def lcL (l : List UInt8) : List Int := laTo (fmG l).w (fmG l).h (fmG l).c (nn (fmG l).w (fmG l).h)
end Go.Proofs.YtdebiobhmpoiiaaDoor
