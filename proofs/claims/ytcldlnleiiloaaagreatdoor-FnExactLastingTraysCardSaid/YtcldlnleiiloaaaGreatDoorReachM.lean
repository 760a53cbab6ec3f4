/-
  Trays that reach each other: in the program and in the model, and the law.
-/
import Derived.Test.YtcldlnleiiloaaaGreatDoorReachA
namespace Go.Proofs.YtcldlnleiiloaaaGreatDoor
open Go.RowKit
theorem InvS.edge {P : Grid → Prop} {g : Grid} {S : List (Sta Grid)} (h : InvS P tiltG g S.length 0 S) {j e : Nat} (hj : j < S.length) (he : e ∈ (sta S j).next) : e < S.length ∧ ∃ d, d < 4 ∧ (sta S e).t = tiltG d (sta S j).t := by
  obtain ⟨i, hi, e1⟩ := List.getElem_of_mem he
  have hn := h.nl j hj
  rw [if_pos hj] at hn
  obtain ⟨a, b⟩ := h.nx j i hj hi
  rw [List.getD_eq_getElem?_getD, List.getElem?_eq_getElem hi] at a b
  rw [Option.getD_some, e1] at a b
  exact ⟨a, i, by omega, b⟩
theorem greach_iff {P : Grid → Prop} {g : Grid} {S : List (Sta Grid)} (h : InvS P tiltG g S.length 0 S) {k j : Nat} (hk : k < S.length) (hj : j < S.length) : GReach S k j ↔ ReachI tiltG (sta S k).t (sta S j).t := by
  constructor
  · intro hr
    have key : ∀ i, GReach S k i → i < S.length ∧ ReachI tiltG (sta S k).t (sta S i).t := fun i hi => by
      induction hi with
      | refl => exact ⟨hk, .refl⟩
      | step _ he ih =>
        obtain ⟨h1, h2⟩ := ih
        obtain ⟨h3, d, hd, h4⟩ := h.edge h1 he
        exact ⟨h3, by rw [h4]; exact .step d h2 hd⟩
    exact (key j hr).2
  · intro hr
    have key : ∀ y, ReachI tiltG (sta S k).t y → ∃ i, i < S.length ∧ (sta S i).t = y ∧ GReach S k i := fun y hy => by
      induction hy with
      | refl => exact ⟨k, hk, rfl, .refl⟩
      | step d _ hd ih =>
        obtain ⟨i, hi, rfl, hg⟩ := ih
        have hn := h.nl i hi
        rw [if_pos hi] at hn
        have hdl : d < (sta S i).next.length := by omega
        obtain ⟨a, b⟩ := h.nx i d hi hdl
        exact ⟨_, a, b, .step hg (getD_mem hdl)⟩
    obtain ⟨i, hi, e, hg⟩ := key _ hr
    rcases Nat.lt_trichotomy i j with h' | h' | h'
    · exact absurd e (h.ne i j h' hj)
    · exact h' ▸ hg
    · exact absurd e.symm (h.ne j i h' hi)
def amOk (l u : List UInt8) : Bool := frOk l u && frOk u l
def amB (l u : List UInt8) : Bool := if amOk l u then frB l u && frB u l else false
theorem fin_bb2 {a b c d : Bool} (h1 : c = a) (h2 : d = b) : Ending.returned (.tuple #[.bool a, .bool b]) = .returned (.tuple #[.bool c, .bool d]) := by rw [h1, h2]
end Go.Proofs.YtcldlnleiiloaaaGreatDoor
