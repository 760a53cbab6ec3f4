/-
  Hardest goals as plain mathematics: how far the cells lie, and the first one of the farthest.
-/
import Derived.Test.YtamdmhclhjkogaaGreatDoorPuzP
namespace Go.Proofs.YtamdmhclhjkogaaGreatDoor
open Go.RowKit
/-- For each cell the distance behind which the ball stands there first, in the first m states; -1 if in none. -/
def lenTo (S : List (Sta Grid)) (b : UInt8) (n : Nat) : Nat → List Int
  | 0 => List.replicate n (-1)
  | m + 1 => if gi (lenTo S b n m) (cbX S b m).toNat < 0 then (lenTo S b n m).set (cbX S b m).toNat (sta S m).far else lenTo S b n m
theorem lenTo_length (S : List (Sta Grid)) (b : UInt8) (n m : Nat) : (lenTo S b n m).length = n := by
  induction m with
  | zero => simp [lenTo]
  | succ m ih => unfold lenTo; split <;> simp [ih]
theorem gi_rep (n i : Nat) (x : Int) (h : i < n) : gi (List.replicate n x) i = x := by unfold gi; simp [List.getD, h]
theorem gi_setH (L : List Int) (i : Nat) (x : Int) (j : Nat) (h : i < L.length) : gi (L.set i x) j = if j = i then x else gi L j := by
  unfold gi
  simp only [List.getD_eq_getElem?_getD, List.getElem?_set]
  by_cases e : j = i
  · subst e; rw [if_pos rfl, if_pos rfl, if_pos h]; rfl
  · rw [if_neg (fun h => e h.symm), if_neg e]
/-- The goal and its length, as they are found in the first m states. -/
def hgTo (S : List (Sta Grid)) (b : UInt8) (n : Nat) : Nat → Int × Int
  | 0 => (-1, -1)
  | m + 1 => if gi (lenTo S b n m) (cbX S b m).toNat < 0 then
      if (hgTo S b n m).2 < (sta S m).far ∨ ((sta S m).far = (hgTo S b n m).2 ∧ cbX S b m < (hgTo S b n m).1) then (cbX S b m, ((sta S m).far : Int)) else hgTo S b n m
    else hgTo S b n m
/-- What the program looks for: the first one of the greatest. -/
structure HG (L : List Int) (goal most : Int) : Prop where
  lo : 0 ≤ goal
  hi : goal < L.length
  at_ : gi L goal.toNat = most
  le : ∀ i, i < L.length → gi L i ≤ most
  lt : ∀ i, i < goal.toNat → gi L i < most
theorem HG.uniq {L : List Int} {g1 m1 g2 m2 : Int} (h : HG L g1 m1) (k : HG L g2 m2) : g1 = g2 ∧ m1 = m2 := by
  have a1 := h.lo
  have a2 := h.hi
  have a3 := k.lo
  have a4 := k.hi
  have e1 := h.le g2.toNat (by omega)
  have e2 := k.le g1.toNat (by omega)
  rw [k.at_] at e1
  rw [h.at_] at e2
  have em : m1 = m2 := by omega
  refine ⟨?_, em⟩
  rcases Int.lt_trichotomy g1 g2 with h' | h' | h'
  · have := k.lt g1.toNat (by omega)
    rw [h.at_] at this
    omega
  · exact h'
  · have := h.lt g2.toNat (by omega)
    rw [k.at_] at this
    omega
/-- What holds behind the first m states. -/
structure HgI (S : List (Sta Grid)) (b : UInt8) (n m : Nat) : Prop where
  lo : ∀ i, i < n → -1 ≤ gi (lenTo S b n m) i
  seen : ∀ i : Nat, i < n → (0 ≤ gi (lenTo S b n m) i ↔ ∃ j, j < m ∧ cbX S b j = (i : Int))
  top : m < S.length → ∀ i, i < n → gi (lenTo S b n m) i ≤ (sta S m).far
  hg : 0 < m → HG (lenTo S b n m) (hgTo S b n m).1 (hgTo S b n m).2 ∧ 0 ≤ (hgTo S b n m).2
theorem HgI.zero (S : List (Sta Grid)) (b : UInt8) (n : Nat) : HgI S b n 0 := by
  refine ⟨fun i hi => by unfold lenTo; rw [gi_rep n i _ hi]; omega, fun i hi => ?_, fun _ i hi => by unfold lenTo; rw [gi_rep n i _ hi]; omega, fun h => absurd h (Nat.lt_irrefl _)⟩
  unfold lenTo
  rw [gi_rep n i _ hi]
  exact ⟨fun h => absurd h (by decide), fun ⟨j, hj, _⟩ => absurd hj (Nat.not_lt_zero _)⟩
theorem HgI.step {S : List (Sta Grid)} {b : UInt8} {n m : Nat} (h : HgI S b n m) (hm : m < S.length) (h0 : 0 ≤ cbX S b m) (hn : cbX S b m < n) (hmono : ∀ i j, i ≤ j → j < S.length → (sta S i).far ≤ (sta S j).far) : HgI S b n (m + 1) := by
  obtain ⟨x, hx⟩ : ∃ x : Nat, cbX S b m = (x : Int) := ⟨(cbX S b m).toNat, by omega⟩
  have hxn : x < n := by omega
  have hL := lenTo_length S b n m
  have hgt := h.top hm
  obtain ⟨L, hLe⟩ : ∃ L, L = lenTo S b n m := ⟨_, rfl⟩
  have ex : (cbX S b m).toNat = x := by omega
  by_cases hneg : gi (lenTo S b n m) x < 0
  · have e1 : lenTo S b n (m + 1) = (lenTo S b n m).set x (sta S m).far := by
      show (if gi (lenTo S b n m) (cbX S b m).toNat < 0 then (lenTo S b n m).set (cbX S b m).toNat _ else _) = _
      rw [ex, if_pos hneg]
    have e2 : hgTo S b n (m + 1) = if (hgTo S b n m).2 < (sta S m).far ∨ ((sta S m).far = (hgTo S b n m).2 ∧ cbX S b m < (hgTo S b n m).1) then (cbX S b m, ((sta S m).far : Int)) else hgTo S b n m := by
      show (if gi (lenTo S b n m) (cbX S b m).toNat < 0 then _ else _) = _
      rw [ex, if_pos hneg]
    have gset : ∀ i, gi ((lenTo S b n m).set x (sta S m).far) i = if i = x then ((sta S m).far : Int) else gi (lenTo S b n m) i := fun i => gi_setH _ _ _ _ (by omega)
    refine ⟨?_, ?_, ?_, ?_⟩
    · intro i hi
      rw [e1, gset]
      by_cases e : i = x
      · rw [if_pos e]; omega
      · rw [if_neg e]; exact h.lo i hi
    · intro i hi
      rw [e1, gset]
      by_cases e : i = x
      · rw [if_pos e]
        exact ⟨fun _ => ⟨m, Nat.lt_succ_self m, by rw [hx, e]⟩, fun _ => by omega⟩
      · rw [if_neg e, h.seen i hi]
        constructor
        · rintro ⟨j, hj, hc⟩; exact ⟨j, by omega, hc⟩
        · rintro ⟨j, hj, hc⟩
          rcases Nat.lt_or_ge j m with hjm | hjm
          · exact ⟨j, hjm, hc⟩
          · obtain rfl : j = m := by omega
            rw [hx] at hc
            omega
    · intro hm1 i hi
      rw [e1, gset]
      have hmm := hmono m (m + 1) (by omega) hm1
      by_cases e : i = x
      · rw [if_pos e]; omega
      · rw [if_neg e]; have := hgt i hi; omega
    · intro _
      rw [e1, e2]
      rcases Nat.eq_zero_or_pos m with hm0 | hm0
      · subst hm0
        have e3 : hgTo S b n 0 = (-1, -1) := rfl
        rw [if_pos (by rw [e3]; left; show (-1 : Int) < _; omega)]
        refine ⟨⟨by rw [hx]; omega, by rw [List.length_set, hL, hx]; omega, ?_, ?_, ?_⟩, by show (0 : Int) ≤ ((sta S 0).far : Int); omega⟩
        · show gi _ (cbX S b 0).toNat = _; rw [ex, gset, if_pos rfl]
        · intro i hi
          rw [List.length_set, hL] at hi
          show gi _ i ≤ ((sta S 0).far : Int)
          rw [gset]
          by_cases e : i = x
          · rw [if_pos e]; omega
          · rw [if_neg e]; exact hgt i hi
        · intro i hi
          have hi' : i < x := by rw [show (cbX S b 0, ((sta S 0).far : Int)).1 = cbX S b 0 from rfl, ex] at hi; exact hi
          show gi _ i < ((sta S 0).far : Int)
          rw [gset, if_neg (by omega)]
          unfold lenTo
          rw [gi_rep n i _ (by omega)]
          omega
      · obtain ⟨hg, hg0⟩ := h.hg hm0
        have g1 := hg.lo
        have g2 := hg.hi
        have g3 := hg.at_
        rw [hL] at g2
        have hle := hgt (hgTo S b n m).1.toNat (by omega)
        rw [g3] at hle
        by_cases hc : (hgTo S b n m).2 < (sta S m).far ∨ ((sta S m).far = (hgTo S b n m).2 ∧ cbX S b m < (hgTo S b n m).1)
        · rw [if_pos hc]
          refine ⟨⟨by rw [hx]; omega, by rw [List.length_set, hL, hx]; omega, ?_, ?_, ?_⟩, by show (0 : Int) ≤ ((sta S m).far : Int); omega⟩
          · show gi _ (cbX S b m).toNat = _; rw [ex, gset, if_pos rfl]
          · intro i hi
            rw [List.length_set, hL] at hi
            show gi _ i ≤ ((sta S m).far : Int)
            rw [gset]
            by_cases e : i = x
            · rw [if_pos e]; omega
            · rw [if_neg e]; exact hgt i hi
          · intro i hi
            have hi' : i < x := by rw [show (cbX S b m, ((sta S m).far : Int)).1 = cbX S b m from rfl, ex] at hi; exact hi
            show gi _ i < ((sta S m).far : Int)
            rw [gset, if_neg (by omega)]
            rcases hc with hc | ⟨hc, hc2⟩
            · have := hg.le i (by omega); omega
            · have := hg.lt i (by omega); omega
        · rw [if_neg hc]
          have hne : x ≠ (hgTo S b n m).1.toNat := fun e => by rw [← e] at g3; omega
          have h3 : ((sta S m).far : Int) = (hgTo S b n m).2 := by omega
          have h4 : (hgTo S b n m).1 ≤ (x : Int) := by
            rcases Int.lt_or_le (x : Int) (hgTo S b n m).1 with h' | h'
            · exact absurd (.inr ⟨h3, by rw [hx]; exact h'⟩) hc
            · exact h'
          refine ⟨⟨g1, by rw [List.length_set, hL]; exact g2, ?_, ?_, ?_⟩, hg0⟩
          · rw [gset, if_neg (fun e => hne e.symm)]; exact g3
          · intro i hi
            rw [List.length_set, hL] at hi
            rw [gset]
            by_cases e : i = x
            · rw [if_pos e]; omega
            · rw [if_neg e]; exact hg.le i (by omega)
          · intro i hi
            rw [gset, if_neg (by omega)]
            exact hg.lt i hi
  · have e1 : lenTo S b n (m + 1) = lenTo S b n m := by
      show (if gi (lenTo S b n m) (cbX S b m).toNat < 0 then (lenTo S b n m).set (cbX S b m).toNat _ else _) = _
      rw [ex, if_neg hneg]
    have e2 : hgTo S b n (m + 1) = hgTo S b n m := by
      show (if gi (lenTo S b n m) (cbX S b m).toNat < 0 then _ else _) = _
      rw [ex, if_neg hneg]
    obtain ⟨j0, hj0, hc0⟩ := (h.seen x hxn).1 (by omega)
    refine ⟨by rw [e1]; exact h.lo, ?_, ?_, ?_⟩
    · intro i hi
      rw [e1, h.seen i hi]
      constructor
      · rintro ⟨j, hj, hc⟩; exact ⟨j, by omega, hc⟩
      · rintro ⟨j, hj, hc⟩
        rcases Nat.lt_or_ge j m with hjm | hjm
        · exact ⟨j, hjm, hc⟩
        · obtain rfl : j = m := by omega
          exact ⟨j0, hj0, by rw [hc0, ← hx, hc]⟩
    · intro hm1 i hi
      rw [e1]
      have hmm := hmono m (m + 1) (by omega) hm1
      have := hgt i hi
      omega
    · intro _
      rw [e1, e2]
      exact h.hg (by omega)
end Go.Proofs.YtamdmhclhjkogaaGreatDoor
